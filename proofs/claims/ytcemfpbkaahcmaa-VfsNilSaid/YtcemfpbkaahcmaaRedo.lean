/- Contracts: a pick chosen; the changes of the list done again. -/
import Derived.Test.YtcemfpbkaahcmaaPick
namespace Go.Proofs.Ytcemfpbkaahcmaa
open Go.RowKit Go.Shelf
set_option linter.unusedVariables false

section
variable {w : World}
def nextF (pb : Nat) : Value := .func (.func 34) #[] #[.pointer (some ⟨pb, 0, none⟩)]
def chosenB (ps : List Int) : Bool := (pickOf ps).tmod 2 == 1
set_option maxHeartbeats 1000000 in
theorem chosen_any {hi pb nb : Nat} {ps : List Int} (hn : w.heap[nb]? = some (.cells #[nextF pb] 37 (0, 0))) (h : PicksAt w hi pb ps) (hpb : hi ≤ pb) :
    Calls Try.prog 36 #[.pointer (some ⟨nb, 0, none⟩)] w fun e w' => e = .returned (.bool (chosenB ps)) ∧ NextQ w hi pb ps w' := by
  have hnx := next_any h hpb
  have cn := cell_of_one hn
  unfold nextF at cn
  have HB : Hid (chosenB ps = ((pickOf ps).tmod 2 == 1)) := rfl
  have h0 : 0 ≤ pickOf ps := by cases ps <;> simp [pickOf]; omega
  obtain ⟨y, hy⟩ : ∃ y, y = pickOf ps := ⟨_, rfl⟩
  rw [← hy] at hnx HB h0
  clear hn h hy
  go_enter Try.func36, Try.ntmps36
  go_wp2_with (go_at_call 34; refine hnx.mono ?_; rintro e w' ⟨rfl, hQ⟩; have HQ := Lib.hid hQ; clear hQ)
  go_ret
  rw [HB.out]
  refine ⟨?_, HQ.out⟩
  first
    | rfl
    | (rw [Int.tmod_eq_emod_of_nonneg h0]; rfl)

theorem PicksAt.off {hi pb : Nat} {ps : List Int} (h : PicksAt w hi pb ps) : OffDisk w pb := by
  obtain ⟨A, c, hb, _⟩ := h
  exact OffDisk.box hb (by decide)
/-- A step in whose course nothing old but block q is written. -/
theorem grown_step {w1 w2 : World} {q : Nat} {row : Option Nat} (h : w.grownBy w1 (some q)) (k : w1.grownBy w2 row) (hr : ∀ j, row = some j → w.heap.size ≤ j ∨ j = q) : w.grownBy w2 (some q) :=
  h.andThen k (fun j e => (hr j e).imp id (fun e' => by rw [e']))
/-- An entry in its variable. -/
def EnAt (w : World) (b : Nat) (e : En) : Prop := w.heap[b]? = some (.cells #[.int .i64 (e.kind : Int), strV e.name, strV e.to, .pointer (enQ e)] 82 (0, 0))
theorem EnAt.cells {b : Nat} {e : En} (h : EnAt w b e) : w.cell? ⟨b, 0, none⟩ = some (.int .i64 (e.kind : Int)) ∧ w.cell? ⟨b, 1, none⟩ = some (strV e.name) ∧ w.cell? ⟨b, 2, none⟩ = some (strV e.to) ∧ w.cell? ⟨b, 3, none⟩ = some (.pointer (enQ e)) := by
  refine ⟨?_, ?_, ?_, ?_⟩ <;> (rw [cell_of_row w b _ _ _ (0, 0) h]; rfl)
theorem row_cells {base : Nat} {A : Option Addr} {n c : Nat} {es : List En} (h : w.ownsRow base 82 4 (.slice A n c) es.length (es.flatMap enV)) {j : Nat} (hj : j < es.length) :
    ∃ g, A = some ⟨g, 0, none⟩ ∧ w.cell? ⟨g, j * 4, none⟩ = some (.int .i64 (es[j].kind : Int)) ∧ w.cell? ⟨g, j * 4 + 1, none⟩ = some (strV es[j].name) ∧ w.cell? ⟨g, j * 4 + 2, none⟩ = some (strV es[j].to) ∧ w.cell? ⟨g, j * 4 + 3, none⟩ = some (.pointer (enQ es[j])) := by
  rcases h.2 with ⟨_, h0⟩ | ⟨g, cap, cur, hv, h1, h2, h3, h4, h5, h6⟩
  · omega
  · injection hv with hA _ _
    have hlen : ∀ (l : List En) (i : Nat) (hi : i < l.length) (t : Nat), t < 4 → (l.flatMap enV)[i * 4 + t]? = (enV l[i])[t]? := by
      intro l
      induction l with
      | nil => intro i hi; simp at hi
      | cons x r ih =>
        intro i hi t ht
        have hx : (enV x).length = 4 := by rw [enV_eq]; rfl
        cases i with
        | zero => rw [List.flatMap_cons, List.getElem?_append_left (by omega)]; simp
        | succ i =>
          rw [List.flatMap_cons, List.getElem?_append_right (by omega), hx]
          have e : (i + 1) * 4 + t - 4 = i * 4 + t := by omega
          rw [e, ih i (by simpa using hi) t ht]
          simp
    have hc : ∀ t, t < 4 → w.cell? ⟨g, j * 4 + t, none⟩ = (enV es[j])[t]? := fun t ht => by
      rw [cell_of_row w g _ _ _ (0, 0) h2, ← hlen es j hj t ht, ← h6, List.getElem?_take, if_pos (by omega), Array.getElem?_toList]
    refine ⟨g, hA, ?_, ?_, ?_, ?_⟩
    · have := hc 0 (by omega); rw [enV_eq] at this; exact this
    · have := hc 1 (by omega); rw [enV_eq] at this; exact this
    · have := hc 2 (by omega); rw [enV_eq] at this; exact this
    · have := hc 3 (by omega); rw [enV_eq] at this; exact this

theorem redo_step (d : Dir) (e : En) (r : List En) (ps : List Int) : redo d (e :: r) ps = redo (if chosenB ps && e.can d then e.app d else d) r ps.tail := by
  show redo (if (pickOf ps).tmod 2 = 1 ∧ e.can d = true then e.app d else d) r ps.tail = _
  congr 1
  have h : ((pickOf ps).tmod 2 = 1 ∧ e.can d = true) ↔ (chosenB ps && e.can d) = true := by simp [chosenB]
  by_cases hc : (chosenB ps && e.can d) = true
  · rw [if_pos (h.2 hc), if_pos hc]
  · rw [if_neg (fun x => hc (h.1 x)), if_neg hc]
/-- Where the loop over the changes stands, in a round. -/
structure Rnd (w wr : World) (hi pb rb N n : Nat) (d : Dir) (ps : List Int) (e : En) : Prop where
  en : EnAt wr N e
  dir : DirAt wr rb n d
  pk : PicksAt wr hi pb ps
  gr : w.grownBy wr (some pb)
section
variable {wr w2 : World} {hi pb rb N n : Nat} {d d' : Dir} {ps : List Int} {e : En}
theorem Rnd.none (h : Rnd w wr hi pb rb N n d ps e) (hpb : hi ≤ pb) (hg : wr.grownBy w2 none) : Rnd w w2 hi pb rb N n d ps e where
  en := (hg.block N (lt_of_block h.en) (by simp)).trans h.en
  dir := h.dir.kept hg (by simp)
  pk := h.pk.kept hg (by simp) (fun g e => by cases e) (by have := h.pk.lt; omega)
  gr := grown_step h.gr hg (fun j e => by cases e)
theorem Rnd.next (h : Rnd w wr hi pb rb N n d ps e) (hQ : NextQ wr hi pb ps w2) : Rnd w w2 hi pb rb N n d ps.tail e where
  en := (hQ.1.block N (lt_of_block h.en) (fun x => by injection x with x; obtain ⟨A, c, hb, _⟩ := h.pk; exact ne_types h.en hb (by decide) x)).trans h.en
  dir := h.dir.kept hQ.1 (fun x => by injection x with x; obtain ⟨A, c, hb, _⟩ := h.pk; exact ne_map_cells h.dir hb x)
  pk := hQ.2
  gr := grown_step h.gr hQ.1 (fun j x => by injection x with x; exact .inr x.symm)
theorem Rnd.app (h : Rnd w wr hi pb rb N n d ps e) (hT : DirTo wr rb (n + 1) d' w2) (hrb : w.heap.size ≤ rb) (hh : hi ≤ w.heap.size) : Rnd w w2 hi pb rb N (n + 1) d' ps e where
  en := (hT.1.block N (lt_of_block h.en) (fun x => by injection x with x; exact ne_map_cells h.dir h.en x.symm)).trans h.en
  dir := hT.2
  pk := h.pk.kept hT.1 (fun x => by injection x with x; obtain ⟨A, c, hb, _⟩ := h.pk; exact ne_map_cells h.dir hb x) (fun g x => by injection x with x; omega) (Nat.le_trans hh h.gr.size)
  gr := grown_step h.gr hT.1 (fun j x => by injection x with x; omega)
theorem can_en (h : DirAt w rb n d) (hs : e.name.length ≤ 32) : Calls Try.prog 53 #[.agg #[.int .i64 (e.kind : Int), strV e.name, strV e.to, .pointer (enQ e)], .map (some rb)] w fun e' w' => e' = .returned (.bool (e.can d)) ∧ Below w.heap.size w w' :=
  can_go e.kind e.name e.to (enQ e) h (le_max hs)
theorem app_en (hc : e.can d = true) (hk : e.kind = 0 ∨ e.kind = 4 ∨ e.kind = 5) (h1 : e.name.length ≤ 32) (h2 : e.to.length ≤ 32) (hm : n ≤ 1073741824) (hu : DirAt w rb n d) :
    Calls Try.prog 54 #[.agg #[.int .i64 (e.kind : Int), strV e.name, strV e.to, .pointer (enQ e)], .map (some rb)] w fun e' w' => e' = .returned (.tuple #[]) ∧ DirTo w rb (n + 1) (e.app d) w' := by
  obtain ⟨kd, nm, to, mk⟩ := e
  rcases hk with h | h | h
  · simp only at h
    subst h
    exact apply_make nm to mk hu hm (le_max h1)
  · simp only at h
    subst h
    have hs : (d.look nm).isSome = true := by simpa [En.can] using hc
    obtain ⟨k, hk⟩ := Option.isSome_iff_exists.1 hs
    have : En.app ⟨4, nm, to, mk⟩ d = (d.del nm).put to k := by
      unfold En.app
      simp only at hk ⊢
      rw [hk]
      rfl
    rw [this]
    exact apply_rename nm to none k hu hm (le_max h1) (le_max h2) hk
  · simp only at h
    subst h
    refine (apply_remove nm to none hu (le_max h1)).mono ?_
    rintro e w1 ⟨rfl, h1, h2⟩
    exact ⟨rfl, h1, h2.mono (by omega)⟩
end

/-- What doing the changes again leaves: a new directory; the picks that are left. -/
def RedoP (w : World) (S : DS) (m hi pb : Nat) (ps : List Int) (e : Ending) (w' : World) : Prop :=
  ∃ rb, e = .returned (.map (some rb)) ∧ w.heap.size ≤ rb ∧ DirAt w' rb (m + S.es.length) (redo S.L S.es ps) ∧ PicksAt w' hi pb (ps.drop S.es.length) ∧ w.grownBy w' (some pb)
set_option maxHeartbeats 2000000 in
theorem redo_any {base p fb lb m hi pb nb : Nat} {S : DS} {sv : Value} {rv : Nat → Value} {ps : List Int} (hG : Good S m) (hM : Mem w base p S fb lb sv rv m) (hm : m ≤ 536870912)
    (hn : w.heap[nb]? = some (.cells #[nextF pb] 37 (0, 0))) (h : PicksAt w hi pb ps) (hpb : hi ≤ pb) :
    Calls Try.prog 35 #[.pointer (some ⟨p, 0, none⟩), .func (.func 36) #[] #[.pointer (some ⟨nb, 0, none⟩)]] w (RedoP w S m hi pb ps) := by
  obtain ⟨_, _, c2, c3, _⟩ := disk_cells hM.blk
  have hcl := clone_dir w lb m S.L hM.last
  obtain ⟨A, c, rfl, hsc⟩ := row_form hM.since
  have HM := Lib.hid hM
  have HG := Lib.hid hG
  have HN := Lib.hid hn
  have HP0 := Lib.hid h
  have hpl := lt_of_block hM.blk
  have hlen : S.es.length ≤ m := by have := hG.cnt2; omega
  clear hG hn h hM
  go_enter Try.func35, Try.ntmps35
  go_wp2_with (go_at_call 44; refine hcl.mono ?_; rintro e w1 ⟨rfl, hd1, _, hb1⟩; have HD1 := Lib.hid hd1; have HB1 := Lib.hid hb1; have c3' : w1.cell? ⟨p, 3, none⟩ = some (.slice A S.es.length c) := (hb1.cell (p := ⟨p, 3, none⟩) hpl).trans c3; clear hd1 hb1)
  obtain ⟨rb, hrb⟩ : ∃ rb, rb = w.heap.size := ⟨_, rfl⟩
  rw [← hrb] at HD1 ⊢
  have HRB := Lib.hid hrb
  clear hrb
  go_loopw [18] (fun i wr => ∃ (j : Nat) (d : Dir), j ≤ S.es.length ∧ i = .int .i64 j ∧ DirAt wr rb (m + j) d ∧ redo d (S.es.drop j) (ps.drop j) = redo S.L S.es ps ∧ PicksAt wr hi pb (ps.drop j) ∧ w.grownBy wr (some pb)) (fun i _ => S.es.length - (intOf i).toNat)
  case atStart => exact ⟨0, S.L, Nat.zero_le _, rfl, HD1.out, rfl, HP0.out.kept (grown_below HB1.out (Nat.le_refl _) none) (by simp) (fun g e => by cases e) (by have := HP0.out.lt; omega), grown_below HB1.out (Nat.le_refl _) _⟩
  case round =>
    obtain ⟨j, d, hj, rfl, hD, hredo, hP, hgw⟩ := hrel
    by_cases hlt : j < S.es.length
    · have htl : (ps.drop j).tail = ps.drop (j + 1) := by rw [List.tail_drop]
      have hMr := HM.out.kept hgw (fun g e => by cases e; exact HP0.out.off)
      obtain ⟨g, rfl, k0, k1, k2, k3⟩ := row_cells hMr.since hlt
      have hdr : S.es.drop j = S.es[j] :: S.es.drop (j + 1) := (List.drop_eq_getElem_cons hlt)
      rw [hdr] at hredo
      obtain ⟨e, he⟩ : ∃ e, e = S.es[j] := ⟨_, rfl⟩
      have hne32 := HG.out.nmE S.es[j] (List.getElem_mem hlt)
      rw [← he] at k0 k1 k2 k3 hredo hne32
      clear he
      rw [redo_step, htl] at hredo
      have hnr := (hgw.block nb (lt_of_block HN.out) (fun e => by injection e with e; exact ne_types HN.out HP0.out.choose_spec.choose_spec.1 (by decide) e)).trans HN.out
      have HCH := Lib.hid (chosen_any (w := wr.alloc (.cells #[.int .i64 (e.kind : Int), strV e.name, strV e.to, .pointer (enQ e)] 82)) ((Below.heap_alloc _ _ nb (lt_of_block hnr)).trans hnr) (hP.kept (World.grownBy_alloc _ _ none) (by simp) (fun g e => by cases e) (by have := hP.lt; omega)) hpb)
      have hj1 : (j : Int) < (S.es.length : Int) := by omega
      clear hMr hdr
      unfold strV at k1 k2
      have hR0 : Rnd w (wr.alloc (.cells #[.int .i64 (e.kind : Int), strV e.name, strV e.to, .pointer (enQ e)] 82)) hi pb rb wr.heap.size (m + j) d (ps.drop j) e :=
        ⟨heap_alloc_new _ _, hD.alloc _, hP.kept (World.grownBy_alloc _ _ none) (by simp) (fun g e => by cases e) (by have := hP.lt; omega), grown_step hgw (World.grownBy_alloc _ _ none) (fun j e => by cases e)⟩
      have HR0 := Lib.hid hR0
      have HR := Lib.hid hredo
      have HH := Lib.hid hne32
      have hhi : hi ≤ w.heap.size := by have := HP0.out.lt; omega
      have hrbw : w.heap.size ≤ rb := Nat.le_of_eq HRB.out.symm
      have HTL := Lib.hid htl
      clear hD hP hgw hR0 htl hredo hne32 hnr
      cases hb : chosenB (ps.drop j)
      · rw [hb] at HCH HR
        simp only [Bool.false_and, Bool.false_eq_true, if_false] at HR
        go_wp2_with fail
        refine HCH.out.mono ?_
        rintro e' w2 ⟨rfl, hQ⟩
        have HR2 := Lib.hid (HR0.out.next hQ)
        clear hQ k0 k1 k2 k3
        go_wp2_with fail
        go_roundw
        case rel => exact ⟨j + 1, d, by omega, by go_num, HR2.out.dir.mono (by omega), HR.out, by have := HR2.out.pk; rw [HTL.out] at this; exact this, HR2.out.gr⟩
        case measure => simp [intOf]; omega
      · rw [hb] at HCH HR
        simp only [Bool.true_and] at HR
        go_wp2_with fail
        refine HCH.out.mono ?_
        rintro e' w2 ⟨rfl, hQ⟩
        have HR2 := Lib.hid (HR0.out.next hQ)
        clear hQ k0 k1 k2 k3
        obtain ⟨d0, d1, d2, d3⟩ := HR2.out.en.cells
        have hcan := can_en HR2.out.dir HH.out.1
        unfold strV at d1 d2 hcan
        cases hc : e.can d
        · rw [hc] at hcan HR
          simp only [Bool.false_eq_true, if_false] at HR
          go_wp2_with (go_at_call 53; refine hcan.mono ?_; rintro e w3 ⟨rfl, hb3⟩; have HR3 := Lib.hid (HR2.out.none hpb (grown_below hb3 (Nat.le_refl _) none)); clear hb3)
          go_roundw
          case rel => exact ⟨j + 1, d, by omega, by go_num, HR3.out.dir.mono (by omega), HR.out, by have := HR3.out.pk; rw [HTL.out] at this; exact this, HR3.out.gr⟩
          case measure => simp [intOf]; omega
        · rw [hc] at hcan HR
          simp only [if_true] at HR
          have HAP := Lib.hid (fun (u : World) (hu : DirAt u rb (m + j) d) => app_en (e := e) hc HH.out.2.2.1 HH.out.1 HH.out.2.1 (by omega) hu)
          clear hc
          go_wp2_with (first
            | (go_at_call 53; refine hcan.mono ?_; rintro e w3 ⟨rfl, hb3⟩; have HR3 := Lib.hid (HR2.out.none hpb (grown_below hb3 (Nat.le_refl _) none)); obtain ⟨f0, f1, f2, f3⟩ := HR3.out.en.cells; unfold strV at f1 f2; have hap := HAP.out w3 HR3.out.dir; unfold strV at hap; clear hb3 d0 d1 d2 d3)
            | (go_at_call 54; refine hap.mono ?_; rintro e w4 ⟨rfl, hT⟩; have HR4 := Lib.hid (HR3.out.app hT hrbw hhi); clear hT))
          go_roundw
          case rel => exact ⟨j + 1, _, by omega, by go_num, HR4.out.dir, HR.out, by have := HR4.out.pk; rw [HTL.out] at this; exact this, HR4.out.gr⟩
          case measure => simp [intOf]; omega
    · have e : j = S.es.length := by omega
      subst e
      rw [List.drop_length] at hredo
      have HRes : RedoP w S m hi pb ps (.returned (.map (some rb))) wr := ⟨rb, rfl, Nat.le_of_eq HRB.out.symm, by rw [← hredo]; exact hD, hP, hgw⟩
      have HR := Lib.hid HRes
      clear HRes hD hredo hP hgw
      go_wp2
      go_ret
      exact HR.out
end
end Go.Proofs.Ytcemfpbkaahcmaa
