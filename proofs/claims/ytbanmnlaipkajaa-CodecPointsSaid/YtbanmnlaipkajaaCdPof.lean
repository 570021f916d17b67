/- Contract: PointOf, of any bytes. -/
import Derived.Test.YtbanmnlaipkajaaCdRead
import Derived.Test.YtbanmnlaipkajaaCdVoteOf
import Derived.Test.YtbanmnlaipkajaaCdPt
import Derived.Test.YtbanmnlaipkajaaSeen
namespace Go.Proofs.Ytbanmnlaipkajaa
open Go.ChangeShapes Go.WideShapes Go.ChangeAt Go.RowKit
set_option linter.unusedVariables false
set_option maxRecDepth 100000

theorem str_toListD (l : List UInt8) : (ByteArray.mk l.toArray).toList = l := by rw [ByteArray.toList_eq]
theorem bytesEqual_c {w : World} {lo hi lo' hi' : Nat} {A B : Option Addr} {a b : List UInt8} (ha : Rd w lo hi A a) (hb : Rd w lo' hi' B b) (c d n m : Nat) (en : n = a.length) (em : m = b.length) :
    Calls Try.prog 66 #[.slice A n c, .slice B m d] w fun e w' => e = .returned (.bool (a == b)) ∧ w = w' := by
  have h1 := run_str ha n c en
  have h2 := run_str hb m d em
  obtain ⟨sx, hsx⟩ : ∃ sx : ByteArray, sx = ⟨a.toArray⟩ := ⟨_, rfl⟩
  obtain ⟨sy, hsy⟩ : ∃ sy : ByteArray, sy = ⟨b.toArray⟩ := ⟨_, rfl⟩
  have he : (sx.toList == sy.toList) = (a == b) := by rw [hsx, hsy, str_toListD, str_toListD]
  unfold strOf at h1 h2
  rw [← hsx] at h1
  rw [← hsy] at h2
  have HE := Lib.hid he
  clear hsx hsy ha hb en em he
  go_enter Try.func66, Try.ntmps66
  go_wp2
  go_ret
  exact ⟨congrArg (fun b => Ending.returned (.bool b)) HE.out, rfl⟩

/-- A zero checkpoint. -/
def pt0 : Array Value := ptV 0 zeros
theorem size_pt0 : (Try.prog.info? 26).map (·.size) = some pt0.size := size_ptV _ _
theorem one_pt0 : pt0.all (·.oneCell') = true := rowV_one 33 _ (ptF_one _ _)
theorem zero_pt0 (u : World) : (zeroValue 26).run Try.prog u = .ok (.agg pt0) u := zero_pointC u
/-- Are they a checkpoint's bytes, and whose? -/
def pofOk (b : List UInt8) : Bool := decide ((ptR (some b)).1 ≤ 4611686018427387904) && (ptL (ptR (some b)).1 (ptR (some b)).2 == b)
def pofV (b : List UInt8) : Array Value := if pofOk b = true then ptV (ptR (some b)).1 (ptR (some b)).2 else pt0
def pofN (b : List UInt8) : Int := if pofOk b = true then 0 else 4
def PofP (w : World) (b : List UInt8) (e : Ending) (w' : World) : Prop := e = .returned (.tuple #[.agg (pofV b), .int .i64 (pofN b)]) ∧ Below w.heap.size w w'
theorem num8_lt (st : Option (List UInt8)) : (numS st 8).1 < 18446744073709551616 := by
  simp only [numS]
  rw [if_pos (by omega)]
  have h1 := num_lt (cutS st 8).1
  rcases cut_len st 8 (by omega) with h | h
  · rw [h] at h1; simp only [] at h1 ⊢; omega
  · have e : (cutS st 8).1.length = 8 := by omega
    rw [e] at h1; simp only [] at h1 ⊢; omega

set_option maxHeartbeats 4000000 in
theorem readAll_point (A : Option Addr) (c : Nat) (l : List UInt8) (w : World) (h : Rd w 0 w.heap.size A l) (hl : l.length ≤ 140737488355328) :
    Calls Try.prog 53 #[.slice A l.length c, .func (.func 54) #[] #[], .func (.func 11) #[] #[]] w (PofP w l) := by
  have hz := zero_pt0
  obtain ⟨W, hW⟩ : ∃ W, W = w.alloc (.cells pt0 26) := ⟨_, rfl⟩
  have hb : Below w.heap.size w W := by rw [hW]; exact (Below.refl _ _).alloc (Nat.le_refl _) _
  have hsz : W.heap.size = w.heap.size + 1 := by rw [hW]; simp
  have f0 : W.heap[w.heap.size]? = some (.cells pt0 26 (0, 0)) := by rw [hW]; exact heap_alloc_new w _
  have hrd := (h.below hb (Nat.le_refl _))
  have HC := Lib.hid (read_any A c l W (hrd.wide (Nat.le_refl _) (by omega)) hl)
  have HRD := Lib.hid hrd
  have HW := Lib.hid hW
  have HB := Lib.hid hb
  have F0 := Lib.hid f0
  have HS := Lib.hid hsz
  clear hW hb f0 hsz h hl hrd
  go_enter Try.func53, Try.ntmps53
  go_wp2_with (go_at_call 94; rw [← HW.out]; refine HC.out.mono ?_; rintro e w1 ⟨p, rfl, hp, hR, b1⟩)
  have HC2 := Lib.hid (readPoint_c W.heap.size p (some l) w1 hR)
  have F1 := Lib.hid ((b1.block w.heap.size (by have := HS.out; omega)).trans F0.out)
  have HB1 := Lib.hid (HB.out.trans (b1.mono HB.out.size))
  have HL1 := Lib.hid (show w.heap.size < w1.heap.size by have := HS.out; have := b1.size; omega)
  have HP := Lib.hid (show w.heap.size < p by have := HS.out; omega)
  have HRD1 := Lib.hid (HRD.out.below b1 (by have := HS.out; omega))
  clear hR b1 HC F0 HRD
  refine HC2.out.mono ?_
  rintro e w2 ⟨rfl, r2, g2⟩
  have F2 := Lib.hid ((g2.block w.heap.size HL1.out (fun e => by injection e with e; have := HP.out; omega)).trans F1.out)
  have HL2 := Lib.hid (Nat.lt_of_lt_of_le HL1.out g2.size)
  have HB2 : Hid (Below w.heap.size w w2) := ⟨g2.os.trans HB1.out.os, g2.tape.trans HB1.out.tape, g2.output.trans HB1.out.output, Nat.le_trans HB1.out.size g2.size, fun k hk => (g2.block k (Nat.lt_trans hk HL1.out) (fun e => by injection e with e; have := HP.out; omega)).trans (HB1.out.block k hk)⟩
  have HRD2 := Lib.hid (HRD1.out.grown g2 (Nat.le_of_lt HL1.out) (fun g hg => by injection hg with hg; have := HP.out; omega))
  clear r2 g2 HC2 F1 HB1 HRD1
  have he := num8_lt (some l)
  have hlen := hashR_len (numS (some l) 8).2
  have HOK := Lib.hid (show pofOk l = (decide ((ptR (some l)).1 ≤ 4611686018427387904) && (ptL (ptR (some l)).1 (ptR (some l)).2 == l)) from rfl)
  have HV := Lib.hid (show pofV l = if pofOk l = true then ptV (ptR (some l)).1 (ptR (some l)).2 else pt0 from rfl)
  have HN := Lib.hid (show pofN l = if pofOk l = true then 0 else 4 from rfl)
  change (ptR (some l)).1 < _ at he
  change (ptR (some l)).2.length = 32 at hlen
  generalize (ptR (some l)).1 = e at *
  generalize (ptR (some l)).2 = x at *
  have HSZ := Lib.hid (size_ptV e x)
  have HON : Hid ((ptV e x).all (·.oneCell') = true) := rowV_one 33 _ (ptF_one _ _)
  have HSI : Hid (pt0.size = (ptV e x).size) := (rowV_size _ _).trans (rowV_size _ _).symm
  have K2 := heap_alloc_new w2 (.cells (ptV e x) 26)
  have bn : Hid (Below w2.heap.size w2 (w2.alloc (.cells (ptV e x) 26))) := (Below.refl _ _).alloc (Nat.le_refl _) _
  by_cases hm : e ≤ 4611686018427387904
  · have HPB := Lib.hid (fun u => pointBytes_ok e x u hm hlen)
    rw [decide_eq_true hm, Bool.true_and] at HOK
    by_cases hq : ptL e x = l
    · rw [beq_iff_eq.2 hq] at HOK
      rw [HOK.out, if_pos rfl] at HV HN
      have HQ := Lib.hid hq
      clear hq hm he hlen
      go_wp2_with (first
        | (refine wpList_store_row rfl 26 (.tmp 8) (.tmp 15) rfl w2.heap.size (ptV e x) rfl rfl 26 pt0 (heap_alloc_new _ _) HSZ.out HSI.out HON.out ?_; rw [World.setRow_alloc_new])
        | (refine wpList_load_row rfl 26 (.tmp 8) rfl w2.heap.size rfl 26 (ptV e x) (0, 0) _ K2 Try.underlying26 rfl HSZ.out ?_)
        | (refine (HPB.out _).mono ?_; rintro e w3 ⟨A3, c3, rfl, hc3, o3, b3⟩
           have BB : Hid (Below w.heap.size w w3) := (HB2.out.trans (bn.out.mono HB2.out.size)).trans (b3.mono (by have := HB2.out.size; simp; omega))
           have h6 : w3.heap[w.heap.size]? = some (.cells pt0 26 (0, 0)) := (b3.block w.heap.size (by have := HL2.out; simp; omega)).trans ((heap_lt _ _ HL2.out).trans F2.out)
           have h7 : w3.heap[w2.heap.size]? = some (.cells (ptV e x) 26 (0, 0)) := (b3.block w2.heap.size (by simp)).trans K2
           have hEq := bytesEqual_c o3.rd ((HRD2.out.below bn.out (Nat.le_of_lt HL2.out)).below b3 (by have := HL2.out; simp; omega)) c3 c _ _ rfl rfl
           rw [beq_iff_eq.2 HQ.out] at hEq
           have HEq := Lib.hid hEq
           clear b3 o3 hEq)
        | (go_at_call 66; refine HEq.out.mono ?_; rintro e w4 ⟨rfl, rfl⟩)
        | (refine wpList_load_row rfl 26 (.tmp 8) rfl w2.heap.size rfl 26 (ptV e x) (0, 0) _ h7 Try.underlying26 rfl HSZ.out ?_)
        | (refine wpList_store_row rfl 26 (.tmp 6) (.tmp 31) rfl w.heap.size (ptV e x) rfl rfl 26 pt0 h6 HSZ.out HSI.out HON.out ?_))
      have K6 : (w3.setRow w.heap.size (ptV e x)).heap[w.heap.size]? = some (.cells (ptV e x) 26 (0, 0)) := setRow_heap _ _ _ _ _ _ h6
      exact bodyPost_ret (v := .tuple #[.agg (ptV e x), .int .i64 0]) (results_cell_row_tmp rfl _ _ w.heap.size 26 (ptV e x) (0, 0) _ rfl K6 Try.underlying26 rfl HSZ.out _ rfl) rfl ⟨by rw [HV.out, HN.out], below_setRow BB.out (Nat.le_refl _) _⟩
    · have hbq : (ptL e x == l) = false := by simpa using hq
      rw [hbq] at HOK
      rw [HOK.out, if_neg (by decide)] at HV HN
      have HQ := Lib.hid hbq
      clear hq hbq hm he hlen
      go_wp2_with (first
        | (refine wpList_store_row rfl 26 (.tmp 8) (.tmp 15) rfl w2.heap.size (ptV e x) rfl rfl 26 pt0 (heap_alloc_new _ _) HSZ.out HSI.out HON.out ?_; rw [World.setRow_alloc_new])
        | (refine wpList_load_row rfl 26 (.tmp 8) rfl w2.heap.size rfl 26 (ptV e x) (0, 0) _ K2 Try.underlying26 rfl HSZ.out ?_)
        | (refine (HPB.out _).mono ?_; rintro e w3 ⟨A3, c3, rfl, hc3, o3, b3⟩
           have BB : Hid (Below w.heap.size w (w3.alloc (.cells pt0 26))) := ((HB2.out.trans (bn.out.mono HB2.out.size)).trans (b3.mono (by have := HB2.out.size; simp; omega))).alloc (by have := HB2.out.size; have := b3.size; simp at this; omega) _
           have h6 : (w3.alloc (.cells pt0 26)).heap[w.heap.size]? = some (.cells pt0 26 (0, 0)) := (heap_lt _ _ (by have := HL2.out; have := b3.size; simp at this; omega)).trans ((b3.block w.heap.size (by have := HL2.out; simp; omega)).trans ((heap_lt _ _ HL2.out).trans F2.out))
           have h7 := heap_alloc_new w3 (.cells pt0 26)
           have hEq := bytesEqual_c o3.rd ((HRD2.out.below bn.out (Nat.le_of_lt HL2.out)).below b3 (by have := HL2.out; simp; omega)) c3 c _ _ rfl rfl
           rw [HQ.out] at hEq
           have HEq := Lib.hid hEq
           clear b3 o3 hEq)
        | (go_at_call 66; refine HEq.out.mono ?_; rintro e w4 ⟨rfl, rfl⟩)
        | (refine wpList_load_row rfl 26 (.tmp 11) rfl w3.heap.size rfl 26 pt0 (0, 0) _ h7 Try.underlying26 rfl size_pt0 ?_)
        | (refine wpList_store_row rfl 26 (.tmp 6) (.tmp 30) rfl w.heap.size pt0 rfl rfl 26 pt0 h6 size_pt0 rfl one_pt0 ?_))
      have K6 : ((w3.alloc (.cells pt0 26)).setRow w.heap.size pt0).heap[w.heap.size]? = some (.cells pt0 26 (0, 0)) := setRow_heap _ _ _ _ _ _ h6
      exact bodyPost_ret (v := .tuple #[.agg pt0, .int .i64 4]) (results_cell_row_tmp rfl _ _ w.heap.size 26 pt0 (0, 0) _ rfl K6 Try.underlying26 rfl size_pt0 _ rfl) rfl ⟨by rw [HV.out, HN.out], below_setRow BB.out (Nat.le_refl _) _⟩
  · have HPB := Lib.hid (fun u => pointBytes_no e x u (by omega))
    rw [show decide (e ≤ 4611686018427387904) = false by simpa using hm, Bool.false_and] at HOK
    rw [HOK.out, if_neg (by decide)] at HV HN
    clear hm he hlen
    go_wp2_with (first
      | (refine wpList_store_row rfl 26 (.tmp 8) (.tmp 15) rfl w2.heap.size (ptV e x) rfl rfl 26 pt0 (heap_alloc_new _ _) HSZ.out HSI.out HON.out ?_; rw [World.setRow_alloc_new])
      | (refine wpList_load_row rfl 26 (.tmp 8) rfl w2.heap.size rfl 26 (ptV e x) (0, 0) _ K2 Try.underlying26 rfl HSZ.out ?_)
      | (refine (HPB.out _).mono ?_; rintro e w3 ⟨rfl, b3⟩
         have BB : Hid (Below w.heap.size w (w3.alloc (.cells pt0 26))) := ((HB2.out.trans (bn.out.mono HB2.out.size)).trans (b3.mono (by have := HB2.out.size; simp; omega))).alloc (by have := HB2.out.size; have := b3.size; simp at this; omega) _
         have h6 : (w3.alloc (.cells pt0 26)).heap[w.heap.size]? = some (.cells pt0 26 (0, 0)) := (heap_lt _ _ (by have := HL2.out; have := b3.size; simp at this; omega)).trans ((b3.block w.heap.size (by have := HL2.out; simp; omega)).trans ((heap_lt _ _ HL2.out).trans F2.out))
         have h7 := heap_alloc_new w3 (.cells pt0 26)
         clear b3)
      | (refine wpList_load_row rfl 26 (.tmp 11) rfl w3.heap.size rfl 26 pt0 (0, 0) _ h7 Try.underlying26 rfl size_pt0 ?_)
      | (refine wpList_store_row rfl 26 (.tmp 6) (.tmp 30) rfl w.heap.size pt0 rfl rfl 26 pt0 h6 size_pt0 rfl one_pt0 ?_))
    have K6 : ((w3.alloc (.cells pt0 26)).setRow w.heap.size pt0).heap[w.heap.size]? = some (.cells pt0 26 (0, 0)) := setRow_heap _ _ _ _ _ _ h6
    exact bodyPost_ret (v := .tuple #[.agg pt0, .int .i64 4]) (results_cell_row_tmp rfl _ _ w.heap.size 26 pt0 (0, 0) _ rfl K6 Try.underlying26 rfl size_pt0 _ rfl) rfl ⟨by rw [HV.out, HN.out], below_setRow BB.out (Nat.le_refl _) _⟩

set_option maxHeartbeats 4000000 in
theorem pointOf_c (A : Option Addr) (c : Nat) (l : List UInt8) (w : World) (h : Rd w 0 w.heap.size A l) (hl : l.length ≤ 140737488355328) :
    Calls Try.prog 12 #[.slice A l.length c] w (PofP w l) := by
  have hz := zero_pt0
  have b0 : Below w.heap.size w (w.alloc (.cells pt0 26)) := (Below.refl _ _).alloc (Nat.le_refl _) _
  have HC := Lib.hid (readAll_point A c l (w.alloc (.cells pt0 26)) ((h.below b0 (Nat.le_refl _)).wide (Nat.le_refl _) (by simp)) hl)
  obtain ⟨V, hV⟩ : ∃ V, V = pofV l := ⟨_, rfl⟩
  have HSZ : Hid ((Try.prog.info? 26).map (·.size) = some V.size) := by rw [hV]; unfold pofV; split; exact size_ptV _ _; exact size_pt0
  have HON : Hid (V.all (·.oneCell') = true) := by rw [hV]; unfold pofV; split; exact rowV_one 33 _ (ptF_one _ _); exact one_pt0
  have hsi : pt0.size = V.size := by rw [hV]; unfold pofV; split; exact (rowV_size _ _).trans (rowV_size _ _).symm; rfl
  have HSI := Lib.hid hsi
  unfold PofP at HC ⊢
  rw [← hV] at HC ⊢
  clear h hl hV hsi
  go_enter Try.func12, Try.ntmps12
  go_wp2_with (first
    | (go_at_call 53; refine HC.out.mono ?_; rintro e w1 ⟨rfl, b1⟩
       have h6 : w1.heap[w.heap.size]? = some (.cells pt0 26 (0, 0)) := (b1.block w.heap.size (by simp)).trans (heap_alloc_new w _))
    | (refine wpList_store_row rfl 26 (.tmp 2) (.tmp 6) rfl w.heap.size V rfl rfl 26 pt0 h6 HSZ.out HSI.out HON.out ?_))
  have K6 : (w1.setRow w.heap.size V).heap[w.heap.size]? = some (.cells V 26 (0, 0)) := setRow_heap _ _ _ _ _ _ h6
  exact bodyPost_ret (v := .tuple #[.agg V, .int .i64 (pofN l)]) (results_cell_row_tmp rfl _ _ w.heap.size 26 V (0, 0) _ rfl K6 Try.underlying26 rfl HSZ.out _ rfl) rfl ⟨rfl, below_setRow (b0.trans (b1.mono b0.size)) (Nat.le_refl _) _⟩
end Go.Proofs.Ytbanmnlaipkajaa
