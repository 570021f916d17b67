/- The reference's Sum: the loop that makes a block's words. -/
import Derived.Test.YthjeanjodhafjaaDoorRsR
namespace Go.Proofs.YthjeanjodhafjaaDoor
open Go.ChangeShapes Go.WideShapes Go.ChangeAt Go.RowKit
set_option linter.unusedVariables false

theorem num_wd (x : List UInt8) (t : Nat) (hx : x.length = 64) (ht : t < 16) : num ((x.drop (4 * t)).take 4) = wd x t := by
  have e : (x.drop (4 * t)).take 4 = [x.getD (4 * t) 0, x.getD (4 * t + 1) 0, x.getD (4 * t + 2) 0, x.getD (4 * t + 3) 0] := by
    apply List.ext_getElem?
    intro j
    rw [List.getElem?_take]
    match j with
    | 0 => simp [List.getD_eq_getElem?_getD]; rw [List.getElem?_eq_getElem (by omega)]; rfl
    | 1 => simp [List.getD_eq_getElem?_getD]; rw [List.getElem?_eq_getElem (by omega)]; rfl
    | 2 => simp [List.getD_eq_getElem?_getD]; rw [List.getElem?_eq_getElem (by omega)]; rfl
    | 3 => simp [List.getD_eq_getElem?_getD]; rw [List.getElem?_eq_getElem (by omega)]; rfl
    | j + 4 => rw [if_neg (by omega)]; rfl
  rw [e]
  simp [num, wd]
theorem sub_len (x : List UInt8) (t : Nat) (hx : x.length = 64) (ht : t < 16) : ((x.drop (4 * t)).take 4).length = 4 := by
  rw [List.length_take, List.length_drop]
  omega
theorem word_next (x : List UInt8) (t : Nat) (h1 : 16 ≤ t) (h2 : t < 64) : wF (wdsL x) t = ad (ad (ad (xo (xo (rotr (wF (wdsL x) (t - 2)) 17) (rotr (wF (wdsL x) (t - 2)) 19)) (wF (wdsL x) (t - 2) / 1024)) (wF (wdsL x) (t - 7))) (xo (xo (rotr (wF (wdsL x) (t - 15)) 7) (rotr (wF (wdsL x) (t - 15)) 18)) (wF (wdsL x) (t - 15) / 8))) (wF (wdsL x) (t - 16)) := by
  have l2 := wF_lt (wdsL x) (wdsL_length x) (wdsL_lt x) (t - 2)
  have l15 := wF_lt (wdsL x) (wdsL_length x) (wdsL_lt x) (t - 15)
  rw [wF_next (wdsL x) (wdsL_length x) t h1 h2, turns2 _ _ _ (rotr_lt l2 (by omega)), turns2 _ _ _ (rotr_lt l15 (by omega))]
theorem word_first (x : List UInt8) (t : Nat) (h : t < 16) : wF (wdsL x) t = wd x t := by
  rw [wF_old _ (wdsL_length x) t h, wdsL_at x t h]

noncomputable def rsB2 : Code := ((Tryd.f25.body.bind (blockOf 2))).getD .skip
set_option maxRecDepth 1000000 in
set_option maxHeartbeats 4000000 in
theorem rs_b2 (c0 c1 c2 c3 c4 c5 c9 c10 c11 c12 c13 c14 c15 c16 c17 c18 c19 c20 c21 c22 c23 c24 c25 c26 c27 c28 c29 c30 c31 c32 c33 c34 c35 c36 c37 c38 c39 c40 c41 c42 c43 c44 c45 c46 c47 c48 c49 c50 c51 c52 c53 c54 c55 c56 c57 c58 c59 c60 c61 c62 c63 c64 c65 c66 c67 c68 c69 c70 c71 c72 c73 c74 c75 c76 c77 c78 c79 c80 c81 c82 c83 c84 c85 c86 c87 c88 c89 c90 c91 c92 c93 c94 c95 c96 c97 c98 c99 c100 c101 c102 c103 c104 c105 c106 c107 c108 c109 c110 c111 c112 c113 c114 c115 c116 c117 c118 c119 c120 c121 c122 c123 c124 c125 c126 c127 c128 c129 c130 c131 c132 c133 c134 c135 c136 c137 c138 c139 c140 c141 c142 c143 c144 c145 c146 c147 c148 c149 c150 c151 c152 c153 c154 c155 c156 c157 c158 c159 c160 c161 c162 c163 c164 c165 c166 c167 c168 c169 c170 c171 c172 c173 c174 c175 c176 c177 c178 c179 c180 c181 c182 c183 c184 c185 c186 c187 c188 c189 c190 c191 c192 c193 c194 c195 c196 c197 c198 c199 c200 c201 c202 c203 c204 : Value) (p3 g o Ln C : Nat) (x : List UInt8) (w : World) (hx : x.length = 64) (hL : 64 ≤ Ln) (hC : Ln ≤ C) (hg : g < p3) (hcell : ∀ j y, x[j]? = some y → w.cell? ⟨g, o + j, none⟩ = some (bv y)) (hF0 : Fill p3 51 64 0 (fun j => rv (wF (wdsL x) j)) w)
    (Q : Exit → Act → World → Prop) (hQ : ∀ (u8 u9 u10 u35 u36 u37 u38 u39 u40 u41 u42 u43 u44 u45 u46 u47 u48 u49 u50 u51 u52 u53 u54 u55 u56 u57 u58 u59 u60 u61 u62 u63 u64 u65 u66 u67 u68 u69 u70 u71 u72 u73 u74 u75 u76 u77 u78 u79 u80 u81 u82 u83 u84 u85 u86 u87 u88 : Value) (w' : World), Fill p3 51 64 64 (fun j => rv (wF (wdsL x) j)) w' → Below p3 w w' → Q .normal ⟨#[c0, c1, c2, c3, c4, c5, .slice (some ⟨g, o, none⟩) Ln C, .pointer (some ⟨p3, 0, none⟩), u8, u9, u10, c11, c12, c13, c14, c15, c16, c17, c18, c19, c20, c21, c22, c23, c24, c25, c26, c27, c28, c29, c30, c31, c32, c33, c34, u35, u36, u37, u38, u39, u40, u41, u42, u43, u44, u45, u46, u47, u48, u49, u50, u51, u52, u53, u54, u55, u56, u57, u58, u59, u60, u61, u62, u63, u64, u65, u66, u67, u68, u69, u70, u71, u72, u73, u74, u75, u76, u77, u78, u79, u80, u81, u82, u83, u84, u85, u86, u87, u88, c89, c90, c91, c92, c93, c94, c95, c96, c97, c98, c99, c100, c101, c102, c103, c104, c105, c106, c107, c108, c109, c110, c111, c112, c113, c114, c115, c116, c117, c118, c119, c120, c121, c122, c123, c124, c125, c126, c127, c128, c129, c130, c131, c132, c133, c134, c135, c136, c137, c138, c139, c140, c141, c142, c143, c144, c145, c146, c147, c148, c149, c150, c151, c152, c153, c154, c155, c156, c157, c158, c159, c160, c161, c162, c163, c164, c165, c166, c167, c168, c169, c170, c171, c172, c173, c174, c175, c176, c177, c178, c179, c180, c181, c182, c183, c184, c185, c186, c187, c188, c189, c190, c191, c192, c193, c194, c195, c196, c197, c198, c199, c200, c201, c202, c203, c204], []⟩ w') :
    Code.wp Tryd.prog rsB2 Q ⟨#[c0, c1, c2, c3, c4, c5, .slice (some ⟨g, o, none⟩) Ln C, .pointer (some ⟨p3, 0, none⟩), .int .i64 0, c9, c10, c11, c12, c13, c14, c15, c16, c17, c18, c19, c20, c21, c22, c23, c24, c25, c26, c27, c28, c29, c30, c31, c32, c33, c34, c35, c36, c37, c38, c39, c40, c41, c42, c43, c44, c45, c46, c47, c48, c49, c50, c51, c52, c53, c54, c55, c56, c57, c58, c59, c60, c61, c62, c63, c64, c65, c66, c67, c68, c69, c70, c71, c72, c73, c74, c75, c76, c77, c78, c79, c80, c81, c82, c83, c84, c85, c86, c87, c88, c89, c90, c91, c92, c93, c94, c95, c96, c97, c98, c99, c100, c101, c102, c103, c104, c105, c106, c107, c108, c109, c110, c111, c112, c113, c114, c115, c116, c117, c118, c119, c120, c121, c122, c123, c124, c125, c126, c127, c128, c129, c130, c131, c132, c133, c134, c135, c136, c137, c138, c139, c140, c141, c142, c143, c144, c145, c146, c147, c148, c149, c150, c151, c152, c153, c154, c155, c156, c157, c158, c159, c160, c161, c162, c163, c164, c165, c166, c167, c168, c169, c170, c171, c172, c173, c174, c175, c176, c177, c178, c179, c180, c181, c182, c183, c184, c185, c186, c187, c188, c189, c190, c191, c192, c193, c194, c195, c196, c197, c198, c199, c200, c201, c202, c203, c204], []⟩ w := by
  conv => arg 2; whnf
  dsimp only at hQ ⊢
  have HQ := Lib.hid hQ
  have HCELL := Lib.hid hcell
  clear hQ hcell
  go_wp2_with fail
  go_loopw [8, 9, 10] (fun v _ _ wr => ∃ t : Nat, t ≤ 64 ∧ v = .int .i64 t ∧ Fill p3 51 64 t (fun j => rv (wF (wdsL x) j)) wr ∧ Below p3 w wr) (fun v _ _ _ => 64 - (intOf v).toNat)
  case atStart => exact ⟨0, by omega, rfl, hF0, Below.refl _ _⟩
  case round =>
    obtain ⟨t, ht, rfl, hF, hb⟩ := hrel
    clear hF0
    by_cases hlt : t < 64
    · by_cases h16 : t < 16
      · have hd16 : decide ((t : Int) < 16) = true := by simp; omega
        have hrd : Rd wr 0 p3 (some ⟨g, o + 4 * t, none⟩) ((x.drop (4 * t)).take 4) := fun _ => ⟨g, o + 4 * t, rfl, by omega, hg, fun j y hy => by
          rw [List.getElem?_take] at hy
          split at hy
          · rw [List.getElem?_drop] at hy
            have := HCELL.out (4 * t + j) y hy
            rw [show o + 4 * t + j = o + (4 * t + j) by omega]
            exact (hb.cell (p := ⟨g, o + (4 * t + j), none⟩) hg).trans this
          · cases hy⟩
        have HG := Lib.hid (refGet_any (some ⟨g, o + 4 * t, none⟩) (C - 4 * t) 0 p3 _ wr hrd (by rw [sub_len x t hx h16]; omega))
        rw [sub_len x t hx h16, num_wd x t hx h16, ← word_first x t h16] at HG
        have hw := wF_lt (wdsL x) (wdsL_length x) (wdsL_lt x) t
        have HF1 := Lib.hid (fun (u : World) (hu : Fill p3 51 64 t (fun j => rv (wF (wdsL x) j)) u) (v : Value) (hv : v = rv (wF (wdsL x) t)) => hu.step hlt hv)
        obtain ⟨u0, hu0, hf0⟩ := hF.cell t hlt
        unfold rv at HF1 hF
        generalize wF (wdsL x) t = q at *
        have i1 : (t : Int) * 4 ≤ 60 := by omega
        have i2 : (C : Int) - 4 * (t : Int) > 0 := by omega
        have i3 : ¬ (C = 4 * t) := by omega
        go_wp2_with fail
        refine HG.out.mono ?_
        rintro e w1 ⟨rfl, m, rfl⟩
        have f1 : (wr.drewN m).frozen? ⟨p3, t, none⟩ = false := hf0
        have c1 : (wr.drewN m).cell? ⟨p3, t, none⟩ = some u0 := hu0
        have hb1 := below_drewN hb m
        have hF1 : Fill p3 51 64 t (fun j => .int .u32 (wF (wdsL x) j : Nat)) (wr.drewN m) := hF
        clear hu0 hf0 hb hF HG hrd
        generalize wr.drewN m = w2 at *
        go_wp2_with fail
        exact ⟨⟨t + 1, by omega, by go_num, HF1.out _ hF1 _ rfl, hb1.setCell (by simp) _⟩, by simp [intOf]; omega⟩
      · have hd16 : decide ((t : Int) < 16) = false := by simp; omega
        have hd64 : decide ((t : Int) < 64) = true := by simp; omega
        have HX := Lib.hid (word_next x t (by omega) hlt)
        have c2 := hF.at_ (t - 2) (by omega)
        have c15 := hF.at_ (t - 15) (by omega)
        have l2 := wF_lt (wdsL x) (wdsL_length x) (wdsL_lt x) (t - 2)
        have l15 := wF_lt (wdsL x) (wdsL_length x) (wdsL_lt x) (t - 15)
        unfold rv at c2 c15
        generalize wF (wdsL x) (t - 2) = x2 at *
        generalize wF (wdsL x) (t - 15) = x15 at *
        have q2 : (2 : Int) ≤ (t : Int) := by omega
        have q15 : (15 : Int) ≤ (t : Int) := by omega
        have m2 : (t : Int) - 2 < 64 := by omega
        have m15 : (t : Int) - 15 < 64 := by omega
        go_wp2_with fail
        have w2 : IntKind.i64.wrap ((t : Int) - 2) = (t : Int) - 2 := IntWalk.i64_in _ (by omega)
        have w15 : IntKind.i64.wrap ((t : Int) - 15) = (t : Int) - 15 := IntWalk.i64_in _ (by omega)
        have z2 : ((t : Int) - 2).toNat = t - 2 := by omega
        have z15 : ((t : Int) - 15).toNat = t - 15 := by omega
        go_quiet (fail)
        clear w2 w15 z2 z15
        have hF1 := hF.drewN nq
        have hb1 := below_drewN hb nq
        clear c2 c15 hF hb
        generalize wr.drewN nq = w1 at *
        go_wp2_with fail
        refine rs_r12 _ _ _ _ _ _ _ _ _ _ _ _ _ _ _ _ _ _ _ _ _ _ _ _ _ _ _ _ _ _ _ _ _ _ _ _ _ _ _ _ _ _ _ _ _ _ _ _ _ _ _ _ _ _ _ _ _ _ _ _ _ _ _ _ _ _ _ _ _ _ _ _ _ _ _ _ _ _ _ _ _ _ _ _ _ _ _ _ _ _ _ _ _ _ _ _ _ _ _ _ _ _ _ _ _ _ _ _ _ _ _ _ _ _ _ _ _ _ _ _ _ _ _ _ _ _ _ _ _ _ _ _ _ _ _ _ _ _ _ _ _ _ _ _ _ _ _ _ _ _ _ _ _ _ _ _ _ _ _ _ _ _ _ _ _ _ _ _ _ _ _ _ _ _ _ _ _ _ _ _ _ _ _ _ _ _ _ _ _ _ _ _ _ _ _ _ _ _ _ _ _ p3 t x2 x15 (wF (wdsL x)) w1 (by omega) hlt l2 l15 hF1 _ ?_
        intro u60 u61 u62 u63 u64 u65 u66 u67 u68 u69 u70 u71 u72 u73 u74 u75 u76 u77 u78 u79 u80 u81 u82 u83 u84 u85 u86 u87 u88 w3 hw3
        rw [← HX.out] at hw3
        have hF3 : Fill p3 51 64 (t + 1) (fun j => rv (wF (wdsL x) j)) w3 := by rw [hw3]; exact Fill.step (wr := w1.drew) hF1 hlt rfl
        have hb3 : Below p3 w w3 := by rw [hw3]; exact (hb1.drew).setCell (by simp) _
        clear hw3 hF1 hb1
        go_wp2_with fail
        exact ⟨⟨t + 1, by omega, by go_num, hF3, hb3⟩, by simp [intOf]; omega⟩
    · obtain rfl : t = 64 := by omega
      go_wp2_with fail
      exact HQ.out _ _ _ _ _ _ _ _ _ _ _ _ _ _ _ _ _ _ _ _ _ _ _ _ _ _ _ _ _ _ _ _ _ _ _ _ _ _ _ _ _ _ _ _ _ _ _ _ _ _ _ _ _ _ _ _ _ _ hF hb
end Go.Proofs.YthjeanjodhafjaaDoor
