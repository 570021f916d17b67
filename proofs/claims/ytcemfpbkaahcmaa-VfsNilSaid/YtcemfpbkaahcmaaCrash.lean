/- Contract: a loss of power. -/
import Derived.Test.YtcemfpbkaahcmaaCrashR
import Derived.Test.YtcemfpbkaahcmaaNames
import Derived.Laws.EntriesVeiled
namespace Go.Proofs.Ytcemfpbkaahcmaa
open Go.RowKit Go.Shelf
set_option linter.unusedVariables false

section
variable {w : World} {base p : Nat} {S : DS} {fb lb m : Nat} {sv : Value} {rv : Nat → Value}
/-- What a loss of power leaves: a disk of its own. -/
def CrashP (w : World) (S : DS) (ps : List Int) (m : Nat) (e : Ending) (w' : World) : Prop :=
  ∃ p' S', e = .returned (.pointer (some ⟨p', 0, none⟩)) ∧ Holds w' w.heap.size p' S' m ∧ Crashed S ps S' ∧ Below w.heap.size w w'
def outL (l : List (Str × List UInt8)) : List (Str × Option (List UInt8 × Nat)) := l.map fun q => (q.1, some (q.2, q.2.length))
/-- How far the loop is. -/
structure CR (w wr : World) (S : DS) (R : Dir) (ps0 : List Int) (pb nb rb : Nat) (vn : Value) (names : List Value) (j : Nat) (pre : Dir) (fl : Nat → Option Fl) (rv : Nat → Value) (ps : List Int) : Prop where
  cb : CB w wr pb nb rb (pre ++ R.drop j).length (pre ++ R.drop j) fl rv ps vn names
  key : pre.map (·.1) = (R.take j).map (·.1)
  las : ∀ k f, fl k = some f → f.n = f.b.length ∧ f.b.length ≤ S.cap
  dom : ∀ q ∈ pre, (fl q.2).isSome = true
  inj : (pre.map (·.2)).Nodup
  con : (pre.map fun q => (q.1, (fl q.2).map fun f => (f.b, f.n))) ++ outL (keep S.fl (R.drop j) ps) = outL (keep S.fl R ps0)
theorem start_cr {w3 w4 : World} {rb n : Nat} {R : Dir} {ps ps' : List Int} {v : Value} (hrb : w.heap.size + 2 ≤ rb) (hd : DirAt w3 rb n R) (hpk : PicksAt w3 w.heap.size w.heap.size ps') (hnb : w3.heap[w.heap.size + 1]? = some (.cells #[nextF w.heap.size] 37 (0, 0)))
    (h3 : Below w.heap.size w w3) (hv : w4.ownsRow w3.heap.size 9 1 v R.length (R.map fun q => strV q.1)) (h4 : Below w3.heap.size w3 w4) (hps : keep S.fl R ps' = keep S.fl R ps') :
    CR w w4 S R ps' w.heap.size (w.heap.size + 1) rb v (R.map fun q => strV q.1) 0 [] (fun _ => none) (fun _ => .slice none 0 0) ps' where
  cb := by
    have g : w3.grownBy w4 none := grown_below h4 (Nat.le_refl _) _
    exact {
      dir := DirAt.tight (hd.kept g (by simp))
      fil := ⟨fun k f h => by simp at h, fun k f h => by simp at h, fun k f h => by simp at h, fun k f k' f' g h => by simp at h⟩
      pk := hpk.kept g (by simp) (fun g e => by cases e) h3.size
      fn := (h4.block _ (lt_of_block hnb)).trans hnb
      nms := by rw [List.length_map]; exact ownsRow_base_a hv h3.size
      bel := h3.trans (h4.mono h3.size) }
  key := by simp
  las := fun k f h => by simp at h
  dom := fun q hq => by simp at hq
  inj := by simp
  con := by simp
theorem CR.step {wr w8 w9 : World} {R : Dir} {ps0 ps2 : List Int} {pb nb rb n' : Nat} {vn v' : Value} {names : List Value} {j k k' : Nat} {pre : Dir} {fl : Nat → Option Fl} {rv2 : Nat → Value} {s : Str} {f : Fl}
    (h : CR w wr S R ps0 pb nb rb vn names j pre fl rv2 ps2) (hj : j < R.length) (hs : R[j] = (s, k)) (hf : S.fl k = some f) (hfl : f.b.length ≤ S.cap) (hok : Dir.Ok R) (hrb : w.heap.size ≤ rb)
    (hC : CS w w8 pb nb rb (pre ++ R.drop j).length (pre ++ R.drop j) fl rv2 (keepR f ps2) vn names k' v' (keepF f ps2).length (keepF f ps2)) (hT : DirTo w8 rb n' ((pre ++ R.drop j).put s k') w9) :
    CR w w9 S R ps0 pb nb rb vn names (j + 1) (pre ++ [(s, k')]) (upd fl k' (some ⟨keepF f ps2, (keepF f ps2).length⟩)) (upd rv2 k' v') (keepR f ps2) := by
  have hdr : R.drop j = (s, k) :: R.drop (j + 1) := by rw [List.drop_eq_getElem_cons hj, hs]
  have hkeys : (pre ++ R.drop j).map (·.1) = R.map (·.1) := by rw [List.map_append, h.key, ← List.map_append, List.take_append_drop]
  have hokd : Dir.Ok (pre ++ R.drop j) := ok_keys hkeys.symm hok
  have hput : (pre ++ R.drop j).put s k' = (pre ++ [(s, k')]) ++ R.drop (j + 1) := by
    rw [hdr] at hokd ⊢
    rw [put_mid hokd]
    simp
  have hne : ∀ q ∈ pre, q.2 ≠ k' := fun q hq e => by
    have := h.dom q hq
    rw [e, hC.new] at this
    cases this
  rw [hput] at hT
  have hkl : (keepF f ps2).length ≤ S.cap := by
    unfold keepF
    split
    · rw [List.length_take]; omega
    · exact hfl
  exact {
    cb := hC.files.dirTo ⟨hT.1, DirAt.tight hT.2⟩ hrb
    key := by
      rw [List.map_append, h.key, List.take_succ_eq_append_getElem hj, List.map_append, hs]
      rfl
    las := fun i g hi => by
      simp only [upd] at hi
      split at hi
      · cases hi; exact ⟨rfl, hkl⟩
      · exact h.las i g hi
    dom := fun q hq => by
      rcases List.mem_append.1 hq with h1 | h1
      · rw [upd_other _ _ (hne q h1)]; exact h.dom q h1
      · obtain rfl : q = (s, k') := by simpa using h1
        simp [upd_same]
    inj := by
      rw [List.map_append, List.nodup_append]
      refine ⟨h.inj, by simp, fun a ha b hb e => ?_⟩
      obtain ⟨q, hq, rfl⟩ := List.mem_map.1 ha
      have : b = k' := by simpa using hb
      exact hne q hq (e.trans this)
    con := by
      rw [← h.con, hdr]
      have h1 : pre.map (fun q => (q.1, (upd fl k' (some ⟨keepF f ps2, (keepF f ps2).length⟩) q.2).map fun f => (f.b, f.n))) = pre.map (fun q => (q.1, (fl q.2).map fun f => (f.b, f.n))) :=
        List.map_congr_left fun q hq => by rw [upd_other _ _ (hne q hq)]
      rw [List.map_append, h1]
      simp only [List.map_cons, List.map_nil, upd_same, Option.map_some, keep, outL, hf, Option.getD_some, List.append_assoc, List.cons_append, List.nil_append] }
theorem old_file {wr : World} {k : Nat} {f : Fl} (hM : Mem w base p S fb lb sv rv m) (hk : S.fl k = some f) (hb : Below w.heap.size w wr) :
    ∃ A c, wr.heap[k]? = some (.cells (fileV (.slice A f.b.length c) f.n) 71 (0, 0)) ∧ wr.ownsRow base 5 1 (.slice A f.b.length c) f.b.length (f.b.map bv) := by
  have h1 := hM.below hb (Nat.le_refl _)
  have hr := h1.fil.row k f hk
  have hbk := h1.fil.blk k f hk
  obtain ⟨A, c, hv, _⟩ := row_form hr
  rw [hv] at hr hbk
  exact ⟨A, c, hbk, hr⟩
set_option maxRecDepth 100000 in
set_option maxHeartbeats 4000000 in
theorem crash_any (h : Holds w base p S m) (hm : m ≤ 268435456) (A : Option Addr) (c : Nat) (ps : List Int) (hr : RdI w w.heap.size A ps) (hc : ps.length ≤ c) (hcm : c ≤ maxLen) :
    Calls Try.prog 12 #[.pointer (some ⟨p, 0, none⟩), .slice A ps.length c] w (CrashP w S ps m) := by
  obtain ⟨hG, fb, lb, sv, rv, hM⟩ := h
  have hM1 := hM.alloc (.cells #[.slice A ps.length c] 23)
  have hnone := none_disk hG hM1
  have hM2 := hM1.alloc (.cells #[nextF w.heap.size] 37)
  have hbox := box_cell w (.slice A ps.length c) 23
  have hpk0 : PicksAt (w.alloc (.cells #[.slice A ps.length c] 23)) w.heap.size w.heap.size ps := ⟨A, c, hbox, hc, hcm, hr.keep (fun q hq => World.cell?_alloc_lt w _ q hq)⟩
  have hpk := hpk0.kept (World.grownBy_alloc _ (.cells #[nextF w.heap.size] 37) none) (by simp) (fun g e => by cases e) (by simp)
  have hnb := box_cell (w.alloc (.cells #[.slice A ps.length c] 23)) (nextF w.heap.size) 37
  rw [World.size_alloc] at hnb
  have hre := redo_any hG hM2 (by omega) hnb hpk (Nat.le_refl _)
  have HG := Lib.hid hG
  have HM := Lib.hid hM
  have HNB := Lib.hid hnb
  clear hG hM hM1 hM2 hbox hpk0 hpk hnb hr
  unfold nextF at hre
  go_enter Try.func12, Try.ntmps12
  go_wp2_with (first
    | (go_at_call 33; refine hnone.mono ?_; rintro e w' ⟨rfl, rfl⟩)
    | (go_at_call 35; refine hre.mono ?_; rintro e w3 ⟨rb, rfl, hrb, hd, hpk, hg⟩; have HD := Lib.hid hd; have HPK := Lib.hid hpk; have HGR := Lib.hid hg; have HRB := Lib.hid hrb; clear hd hpk hg hrb))
  have hok := redo_ok (fl := S.fl) S.es S.L ps HG.out.okL HG.out.nmL HG.out.domL HG.out.nmE
  obtain ⟨R, hR⟩ : ∃ R, R = redo S.L S.es ps := ⟨_, rfl⟩
  rw [← hR] at hok HD
  have hRl : R.length ≤ m := Nat.le_trans hok.2.2.2 HG.out.cnt2
  have hnm := names_any w3 rb _ R HD.out hok.1 (by omega)
  obtain ⟨ps', hps'⟩ : ∃ ps', ps' = ps.drop S.es.length := ⟨_, rfl⟩
  rw [← hps'] at HPK
  have HR := Lib.hid hR
  have HPS := Lib.hid hps'
  have HOK := Lib.hid hok
  clear hR hps' hok hre hnone
  have hb3 : Below w.heap.size w w3 := (((Below.refl w.heap.size w).alloc (Nat.le_refl _) (.cells #[.slice A ps.length c] 23)).alloc (by simp) (.cells #[nextF w.heap.size] 37)).grown HGR.out (by simp; omega) (fun k e => by cases e; exact Nat.le_refl _)
  have hnb3 : w3.heap[w.heap.size + 1]? = some (.cells #[nextF w.heap.size] 37 (0, 0)) := (HGR.out.block _ (lt_of_block HNB.out) (fun e => by injection e with e; omega)).trans HNB.out
  have hrb : w.heap.size + 2 ≤ rb := by have := HRB.out; simp at this; omega
  have HB3 := Lib.hid hb3
  have HNB3 := Lib.hid hnb3
  clear hb3 hnb3
  refine hnm.mono ?_
  rintro e w4 ⟨v, rfl, hv, hb4⟩
  have hCR := start_cr (S := S) (ps := ps) hrb HD.out HPK.out HNB3.out HB3.out hv hb4 rfl
  obtain ⟨Av, cv, rfl, _⟩ := row_form hv
  have HCR := Lib.hid hCR
  clear hCR hv hb4 hnm
  go_wp2_with fail
  go_loopw [19] (fun i wr => ∃ (j : Nat) (pre : Dir) (fl2 : Nat → Option Fl) (rv2 : Nat → Value) (ps2 : List Int), j ≤ R.length ∧ i = .int .i64 j ∧ CR w wr S R ps' w.heap.size (w.heap.size + 1) rb (.slice Av R.length cv) (R.map fun q => strV q.1) j pre fl2 rv2 ps2) (fun i _ => R.length - (intOf i).toNat)
  case atStart => exact ⟨0, [], _, _, ps', Nat.zero_le _, rfl, HCR.out⟩
  case round =>
    obtain ⟨j, pre, fl2, rv2, ps2, hj, rfl, hCr⟩ := hrel
    by_cases hlt : j < R.length
    · obtain ⟨s, k, hsk⟩ : ∃ s k, R[j] = (s, k) := ⟨_, _, rfl⟩
      have hmemR : (s, k) ∈ R := by rw [← hsk]; exact List.getElem_mem hlt
      obtain ⟨f, hf⟩ := Option.isSome_iff_exists.1 (HOK.out.2.2.1 _ hmemR)
      have hs32 := HOK.out.2.1 _ hmemR
      obtain ⟨Af, cf, hfb, hfr⟩ := old_file HM.out hf hCr.cb.bel
      have hflas := HG.out.las k f hf
      have hcap := HG.out.cap2
      have hcp := copy_any hfb hfr (by omega)
      have hdr : R.drop j = (s, k) :: R.drop (j + 1) := by rw [List.drop_eq_getElem_cons hlt, hsk]
      have hokd : Dir.Ok (pre ++ R.drop j) := ok_keys (by rw [List.map_append, hCr.key, ← List.map_append, List.take_append_drop]) HOK.out.1
      have hl : Dir.look (pre ++ R.drop j) s = some k := mem_look hokd (by rw [hdr]; simp)
      have hlook := dir_look hCr.cb.dir s (le_max hs32)
      rw [hl] at hlook
      simp only [ptrOf] at hlook
      have hkey := key9 s (le_max hs32)
      have hcell : ∃ g, Av = some ⟨g, 0, none⟩ ∧ wr.cell? ⟨g, j, none⟩ = some (strV s) := by
        rcases hCr.cb.nms.2 with ⟨_, h0⟩ | ⟨g, cap, cur, hv, _⟩
        · rw [List.length_map] at h0; omega
        · injection hv with hA _ _
          refine ⟨g, hA, ?_⟩
          have := hCr.cb.nms.cells (g := g) (by rw [hA]; rfl) j (strV s) (by simp [hlt, hsk])
          have hadd : (⟨g, 0, none⟩ : Addr).add j = ⟨g, j, none⟩ := by
            unfold Addr.add
            split
            · next h0 => subst h0; rfl
            · simp
          rw [hadd] at this
          exact this
      obtain ⟨g, rfl, hcell⟩ := hcell
      have HCr := Lib.hid hCr
      have HSK := Lib.hid hsk
      have HF := Lib.hid hf
      have HKEY := Lib.hid hkey
      clear hCr hsk hf hfb hfr hmemR hdr hokd hl hkey
      unfold strV at hcell
      go_wp2_with (go_at_call 38; refine hcp.mono ?_; rintro e w5 ⟨k', A', c', rfl, hk', hb5, hlc, hr5, hw5⟩; have HC5 := Lib.hid (HCr.out.cb.copied hb5 hk' hr5 hw5); have hlo := loose_any (HC5.out.blk) hflas.1 (by omega); clear hk' hb5 hr5 hw5 hlook hcell)
      refine hlo.mono ?_
      rintro e w6 ⟨rfl, hw6⟩
      have HC6 := Lib.hid (hw6 ▸ HC5.out.grow (⟨rfl, rfl, rfl, Nat.le_refl _, fun _ _ _ => rfl⟩ : w5.grownBy w5.drew none))
      clear hw6 hlo HC5
      have hrb0 : w.heap.size ≤ rb := by omega
      by_cases hnl : f.n < f.b.length
      · have q : (0 : Int) < (f.b.length : Int) - (f.n : Int) := by omega
        obtain ⟨d0, d1⟩ := file_cells HC6.out.blk
        have HNL := Lib.hid hnl
        clear hnl
        go_wp2_with fail
        refine crash_r10 _ _ _ _ _ _ _ _ _ _ _ _ _ _ _ _ _ _ _ _ _ _ _ _ _ _ _ _ _ _ _ _ _ _ _ _ _ _ _ _ _ _ _ _ _ _ _ _ _ _ _ _ _ _ _ _ _ _ _ _ _ _ _ _ _ w w6 _ _ rb _ k' c' _ fl2 rv2 ps2 _ _ A' f HC6.out (Nat.le_refl _) HNL.out (by omega) _ ?_
        intro u30 u31 u32 u33 u34 u35 u36 u37 u38 u39 u40 u41 u42 u43 u44 u45 u46 u47 u48 w7 hC7
        have HC7 := Lib.hid hC7
        have hkr : keepR f ps2 = ps2.tail := by unfold keepR; rw [if_pos HNL.out]
        have hkl : (keepF f ps2).length ≤ 9223372036854775807 := by
          unfold keepF
          split
          · rw [List.length_take]; omega
          · omega
        clear hC7 d0 d1
        obtain ⟨d0, d1⟩ := file_cells HC7.out.blk
        have d1f := free_block (j := 1) HC7.out.blk
        have HC8 := Lib.hid (HC7.out.set1 (keepF f ps2).length)
        have HFIN := Lib.hid (fun (w9 : World) (n' : Nat) (hT : DirTo (w7.setCell ⟨k', 1, none⟩ (.int .i64 ((keepF f ps2).length : Int))) rb n' ((pre ++ R.drop j).put s k') w9) =>
          CR.step HCr.out hlt HSK.out HF.out hflas.2 HOK.out.1 hrb0 (by rw [hkr]; exact HC8.out) hT)
        have hd7 := HC8.out.dir
        obtain ⟨kl, hkl2⟩ : ∃ kl, kl = (keepF f ps2).length := ⟨_, rfl⟩
        rw [← hkl2] at d0 HFIN hkl hd7
        clear hkl2 HC8 hkr HC7
        have hkey := HKEY.out
        unfold strV at hkey
        go_wp2_with (at_mapUpdate; refine wpList_mapUpdate_own _ rfl _ _ _ 49 rfl 9 68 law9 Try.underlying49 ptrR rb _ _ rfl hd7 (by rw [List.length_append, List.length_drop]; have := congrArg List.length HCr.out.key; simp at this; unfold maxLen; omega) _ _ _ rfl rfl hkey (datE k') [] (ptrR_mk k') ?_; intro w9 hown9 hgrow9; have HS9 := Lib.hid (HFIN.out w9 _ ⟨hgrow9, DirAt.put hown9⟩); clear hown9 hgrow9)
        go_roundw
        case rel => exact ⟨j + 1, _, _, _, _, by omega, by go_num, HS9.out⟩
        case measure => simp [intOf]; omega
      · have hkf : keepF f ps2 = f.b := by unfold keepF; rw [if_neg hnl]
        have hkr : keepR f ps2 = ps2 := by unfold keepR; rw [if_neg hnl]
        have q : ¬ (0 : Int) < (f.b.length : Int) - (f.n : Int) := by omega
        have HC7 := Lib.hid (HC6.out.set1 f.b.length)
        obtain ⟨d0, d1⟩ := file_cells HC6.out.blk
        have d1f := free_block (j := 1) HC6.out.blk
        have HFIN := Lib.hid (fun (w9 : World) (n' : Nat) (hT : DirTo (w6.setCell ⟨k', 1, none⟩ (.int .i64 (f.b.length : Int))) rb n' ((pre ++ R.drop j).put s k') w9) =>
          CR.step HCr.out hlt HSK.out HF.out hflas.2 HOK.out.1 hrb0 (by rw [hkf, hkr]; exact HC7.out) hT)
        have hkey := HKEY.out
        have hd7 := HC7.out.dir
        unfold strV at hkey
        clear hkf hkr hnl
        go_wp2_with (at_mapUpdate; refine wpList_mapUpdate_own _ rfl _ _ _ 49 rfl 9 68 law9 Try.underlying49 ptrR rb _ _ rfl hd7 (by rw [List.length_append, List.length_drop]; have := congrArg List.length HCr.out.key; simp at this; unfold maxLen; omega) _ _ _ rfl rfl hkey (datE k') [] (ptrR_mk k') ?_; intro w9 hown9 hgrow9; have HS9 := Lib.hid (HFIN.out w9 _ ⟨hgrow9, DirAt.put hown9⟩); clear hown9 hgrow9)
        go_roundw
        case rel => exact ⟨j + 1, _, _, _, _, by omega, by go_num, HS9.out⟩
        case measure => simp [intOf]; omega
    · have e : j = R.length := by omega
      subst e
      have hcb := hCr.cb
      have hd := hcb.dir
      rw [List.drop_length, List.append_nil] at hd
      have hkeys : pre.map (·.1) = R.map (·.1) := by have := hCr.key; rw [List.take_length] at this; exact this
      have hpl : pre.length = R.length := by have := congrArg List.length hkeys; simpa using this
      have hG2 : Good (freshS S.cap pre fl2) m := fresh_good HG.out.cap1 HG.out.cap2 (ok_keys hkeys.symm HOK.out.1) (fun q hq => by
        have : q.1 ∈ R.map (·.1) := by rw [← hkeys]; exact List.mem_map.2 ⟨q, hq, rfl⟩
        obtain ⟨q', hq', e⟩ := List.mem_map.1 this
        rw [← e]; exact HOK.out.2.1 q' hq') hCr.dom hCr.inj (fun k f hk => by have := hCr.las k f hk; exact ⟨by omega, this.2⟩) (by omega)
      have hfr := fresh_any hG2 hd (by omega : w.heap.size ≤ rb) hcb.fil
      have hcr : Crashed S ps (freshS S.cap pre fl2) := ⟨rfl, rfl, rfl, rfl, rfl, rfl, rfl, rfl, by
        have := hCr.con
        rw [List.drop_length] at this
        simp only [keep, outL, List.map_nil, List.append_nil] at this
        rw [HR.out, HPS.out] at this
        exact this⟩
      have hold := HM.out.below hcb.bel (Nat.le_refl _)
      obtain ⟨c0, _⟩ := disk_cells hold.blk
      have HCRR := Lib.hid hcr
      have HBL := Lib.hid hcb.bel
      have hge : ¬ R.length < R.length := by omega
      clear hCr hcb hd hG2 hcr hold hlt hkeys hpl hge
      go_wp2_with (go_at_call 31; refine hfr.mono ?_; rintro e w9 ⟨p', rfl, hh, hb9⟩; have HH := Lib.hid hh; have HB9 := Lib.hid hb9; clear hh hb9)
      go_ret
      exact ⟨p', _, rfl, HH.out, HCRR.out, HBL.out.trans (HB9.out.mono HBL.out.size)⟩
end
end Go.Proofs.Ytcemfpbkaahcmaa
