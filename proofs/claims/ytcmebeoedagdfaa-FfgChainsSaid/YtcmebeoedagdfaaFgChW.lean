/- FfgChains: one checkpoint more. -/
import Derived.Test.YtcmebeoedagdfaaFgChR
import Derived.Test.YtcmebeoedagdfaaFgNew
namespace Go.Proofs.Ytcmebeoedagdfaa
open Go.ChangeMaps Go.MapKept Go.Maps Go.WideElems Go.RowKit Go.ChangeShapes Go.WideShapes Go.ChangeAt
set_option linter.unusedVariables false
set_option maxRecDepth 100000

/-- The checkpoint of a place. -/
def pk (E : List Nat) (k : Nat) : Pt := ⟨E.getD k 0 % 18446744073709551616, UInt8.ofNat k :: List.replicate 31 0, Nat.mod_lt _ (by omega), by simp⟩
def rowL (E : List Nat) (n : Nat) : List Pt := (List.range n).map (pk E)
theorem rowL_len (E : List Nat) (n : Nat) : (rowL E n).length = n := by simp [rowL]
theorem rowL_more (E : List Nat) (n : Nat) : rowL E n ++ [pk E n] = rowL E (n + 1) := by simp [rowL, List.range_succ]
theorem rowL_at (E : List Nat) (n k : Nat) (h : k < n) : (rowL E n)[k]? = some (pk E k) := by simp [rowL, h]
theorem built_hx (x : UInt8) : Try.prog.built 27 [(0, bv x)] = some (hashV (x :: List.replicate 31 0)) := by kernel_rfl
noncomputable def ch_r9C : Code := ((Try.f8.body.bind (regionOf 9))).getD .skip
set_option maxRecDepth 1000000 in
set_option maxHeartbeats 8000000 in
theorem ch_r9 (c1 c2 c3 c4 c7 c8 c9 c10 c11 c12 c13 c14 c15 c16 c17 c18 c19 c20 c21 c22 c23 c24 c25 c26 c27 c28 c29 c30 c31 c32 c33 c34 c35 c36 c37 c38 c39 c40 c41 c42 c43 c44 c45 c46 c47 c48 c49 c50 c51 c52 c53 c54 c55 c56 c57 c58 c59 c60 c61 c62 c63 c64 c65 c66 c67 c68 c69 c70 c71 c72 c73 c74 c75 c76 c77 c78 c79 c80 c81 c82 c83 c84 c85 c86 c87 c88 c89 c90 c91 c92 c93 c94 c95 c96 c97 c98 c99 c100 c101 c102 c103 c104 c105 c106 c107 c108 c109 c110 c111 c112 c113 c114 c115 c116 c117 c118 c119 c120 c121 c122 c123 c124 c125 c126 c127 c128 c129 c130 c131 c132 c133 c134 c135 c136 c137 c138 c139 c140 c141 c142 c143 c144 c145 c146 c147 c148 c149 c150 c151 c152 c153 c154 c155 c156 c157 c158 c159 c160 c161 c162 c163 c164 c165 c166 c167 c168 c169 c170 c171 c172 c173 c174 c175 c176 c177 c178 c179 c180 c181 c182 c183 c184 c185 c186 c187 c188 c189 c190 : Value) (w : World) (xa : Addr) (A : Option Addr) (nE cE c base e1 : Nat) (E : List Nat) (i : Nat) (hn : i < nE) (hnE : nE ≤ 60) (he : E[i]? = some e1) (he64 : e1 < 18446744073709551616) (h1 : w.cell? (xa.add i) = some (.int .u64 (e1 : Int))) (hbase : base ≤ w.heap.size) (hO : w.ownsRow base 29 33 (.slice A i c) i (pts (rowL E i)))
    (Q : Exit → Act → World → Prop) (hQ : ∀ (u5 u55 u56 u57 u58 u59 u60 u61 u62 u63 u64 u65 : Value) (w' : World), (∃ A' c', u5 = .slice A' (i + 1) c' ∧ w'.ownsRow base 29 33 u5 (i + 1) (pts (rowL E (i + 1))) ∧ Below base w w') → Q .normal ⟨#[.slice (some xa) nE cE, c1, c2, c3, c4, u5, .int .i64 (i : Int), c7, c8, c9, c10, c11, c12, c13, c14, c15, c16, c17, c18, c19, c20, c21, c22, c23, c24, c25, c26, c27, c28, c29, c30, c31, c32, c33, c34, c35, c36, c37, c38, c39, c40, c41, c42, c43, c44, c45, c46, c47, c48, c49, c50, c51, c52, c53, c54, u55, u56, u57, u58, u59, u60, u61, u62, u63, u64, u65, c66, c67, c68, c69, c70, c71, c72, c73, c74, c75, c76, c77, c78, c79, c80, c81, c82, c83, c84, c85, c86, c87, c88, c89, c90, c91, c92, c93, c94, c95, c96, c97, c98, c99, c100, c101, c102, c103, c104, c105, c106, c107, c108, c109, c110, c111, c112, c113, c114, c115, c116, c117, c118, c119, c120, c121, c122, c123, c124, c125, c126, c127, c128, c129, c130, c131, c132, c133, c134, c135, c136, c137, c138, c139, c140, c141, c142, c143, c144, c145, c146, c147, c148, c149, c150, c151, c152, c153, c154, c155, c156, c157, c158, c159, c160, c161, c162, c163, c164, c165, c166, c167, c168, c169, c170, c171, c172, c173, c174, c175, c176, c177, c178, c179, c180, c181, c182, c183, c184, c185, c186, c187, c188, c189, c190], []⟩ w') :
    Code.wp Try.prog ch_r9C Q ⟨#[.slice (some xa) nE cE, c1, c2, c3, c4, .slice A i c, .int .i64 (i : Int), c7, c8, c9, c10, c11, c12, c13, c14, c15, c16, c17, c18, c19, c20, c21, c22, c23, c24, c25, c26, c27, c28, c29, c30, c31, c32, c33, c34, c35, c36, c37, c38, c39, c40, c41, c42, c43, c44, c45, c46, c47, c48, c49, c50, c51, c52, c53, c54, c55, c56, c57, c58, c59, c60, c61, c62, c63, c64, c65, c66, c67, c68, c69, c70, c71, c72, c73, c74, c75, c76, c77, c78, c79, c80, c81, c82, c83, c84, c85, c86, c87, c88, c89, c90, c91, c92, c93, c94, c95, c96, c97, c98, c99, c100, c101, c102, c103, c104, c105, c106, c107, c108, c109, c110, c111, c112, c113, c114, c115, c116, c117, c118, c119, c120, c121, c122, c123, c124, c125, c126, c127, c128, c129, c130, c131, c132, c133, c134, c135, c136, c137, c138, c139, c140, c141, c142, c143, c144, c145, c146, c147, c148, c149, c150, c151, c152, c153, c154, c155, c156, c157, c158, c159, c160, c161, c162, c163, c164, c165, c166, c167, c168, c169, c170, c171, c172, c173, c174, c175, c176, c177, c178, c179, c180, c181, c182, c183, c184, c185, c186, c187, c188, c189, c190], []⟩ w := by
  conv => arg 2; whnf
  try dsimp only at hQ ⊢
  obtain ⟨i0, hi0⟩ : ∃ i0, Try.prog.info? 29 = some i0 := ⟨_, (Option.some_get (by kernel_rfl)).symm⟩
  obtain ⟨hz0, hz1, hz2⟩ := point_row hi0
  have wb : IntKind.u8.wrap (i : Int) = (((UInt8.ofNat i).toNat : Nat) : Int) := by rw [UInt8.toNat_ofNat', IntKind.wrap_u8]; omega
  have bx : Try.prog.built 27 [(0, .int .u8 (((UInt8.ofNat i).toNat : Nat) : Int))] = some (hashV (pk E i).l) := built_hx (UInt8.ofNat i)
  have bp : Try.prog.built 29 [(0, .int .u64 (e1 : Int)), (1, .agg (hashV (pk E i).l))] = some (pv (pk E i)) := by
    have : (pk E i).e = e1 := by show E.getD i 0 % _ = _; rw [List.getD_eq_getElem?_getD, he]; exact Nat.mod_eq_of_lt he64
    rw [← this]
    exact built_pt _ _
  obtain ⟨u2, hu2⟩ : ∃ u2, u2 = w.alloc (.cells (pv (pk E i)) 29) := ⟨_, rfl⟩
  have b2 : Below w.heap.size w u2 := by rw [hu2]; exact (Below.refl _ _).alloc (Nat.le_refl _) _
  have hb2 : (Instr.buildSlice 38 1 #[(0, .agg (pv (pk E i)))]).run Try.prog w = .ok (.slice (some ⟨w.heap.size, 0, none⟩) 1 1) u2 := by rw [hu2]; exact one_point _ w
  have N2 : Hid (u2.ownsRow 0 29 33 (.slice (some ⟨w.heap.size, 0, none⟩) 1 1) 1 (pC (pk E i))) := by rw [hu2]; exact own_point _ w
  have O2 := Lib.hid (ownKeep hO (fun g hg => b2.block g (hO.lt g hg).2))
  have B2 := Lib.hid b2
  have HO := Lib.hid hO
  have BS := Lib.hid (Nat.le_trans hbase b2.size)
  have BP := Lib.hid bp
  have BXX := Lib.hid bx
  have LB : Hid (∀ k, (Value.slice A i c).ownBlock = some k → base ≤ k) := fun k e => (hO.lt k e).1
  clear hu2 b2 hO bp bx he
  go_wp2_with (first
    | (refine wpList_build_as' rfl 27 #[(0, .tmp 61)] rfl _ _ BXX.out (by kernel_rfl) ?_)
    | (refine wpList_build_as' rfl 29 #[(0, .tmp 59), (1, .tmp 62)] rfl _ _ BP.out (by kernel_rfl) ?_)
    | (refine wpList_buildSlice_row (v := .slice (some ⟨w.heap.size, 0, none⟩) 1 1) (w' := u2) rfl 38 1 #[(0, .tmp 63)] rfl ?hr ?_; case hr => (simp only [List.map_toArray, List.map_cons, List.map_nil]; exact hb2))
    | (at_builtin; refine wpList_append_row rfl (.tmp 55) (.tmp 64) 38 rfl base 29 i0 _ 33 40 Try.underlying38 hi0 hz0 hz1 hz2 (by show (pv ptZ).size = 33; exact rowV_size _ _) (by decide) (.slice A i c) i (pts (rowL E i)) rfl O2.out 0 _ 1 (pC (pk E i)) rfl N2.out (pC_one _) (by unfold maxLen; omega) (by omega) BS.out ?_; intro v' w3 o3 g3 b3; rw [pts_more, rowL_more] at o3)
    | fail)
  obtain ⟨A', c', rfl, _⟩ := ownForm o3
  exact ⟨A', c', rfl, o3, (B2.out.mono hbase).grown g3 BS.out (fun k e => LB.out k e)⟩
end Go.Proofs.Ytcmebeoedagdfaa
