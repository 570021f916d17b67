/- Contracts: a disk on which all that is there lasts; a new disk. -/
import Derived.Test.YtcemfpbkaahcmaaRedo
namespace Go.Proofs.Ytcemfpbkaahcmaa
open Go.RowKit Go.Shelf
set_option linter.unusedVariables false

def freshS (cap : Nat) (D : Dir) (fl : Nat → Option Fl) : DS := ⟨cap, D, D, [], -1, 0, 0, false, 0, fl⟩
theorem fresh_good {cap : Nat} {D : Dir} {fl : Nat → Option Fl} (h1 : 1 ≤ cap) (h2 : cap ≤ 16777216) (ok : Dir.Ok D) (nm : ∀ p ∈ D, p.1.length ≤ 32) (dom : ∀ p ∈ D, (fl p.2).isSome = true) (inj : (D.map (·.2)).Nodup)
    (las : ∀ k f, fl k = some f → f.n ≤ f.b.length ∧ f.b.length ≤ cap) {m : Nat} (hm : D.length ≤ m) : Good (freshS cap D fl) m where
  cap1 := h1
  cap2 := h2
  okD := ok
  okL := ok
  nmD := nm
  nmL := nm
  domD := dom
  domL := dom
  inj := inj
  nmE := fun e he => by simp [freshS] at he
  las := las
  cnt := by simp [freshS]
  cnt2 := by simpa [freshS] using hm
  ch1 := by simp [freshS]
  ch2 := by simp [freshS]
  fa1 := by simp [freshS]
  fa2 := by simp [freshS]
  fc := .inl rfl
  fu1 := by simp [freshS]
  fu2 := by simp [freshS]
theorem DirAt.tight {w : World} {b n : Nat} {d : Dir} (h : DirAt w b n d) : DirAt w b d.length d := by
  obtain ⟨es, clock, hb, F, hs, hD⟩ := h
  refine ⟨es, clock, hb, F, ?_, hD⟩
  have h1 := congrArg Maps.size hD
  rw [toD_size] at h1
  rw [h1]
  simp [Maps.size, length_sorted]

section
variable {w : World}
/-- A disk that was made: where it stands, what it is. -/
def MadeP (w : World) (base : Nat) (S : DS) (m : Nat) (e : Ending) (w' : World) : Prop :=
  ∃ p, e = .returned (.pointer (some ⟨p, 0, none⟩)) ∧ Holds w' base p S m ∧ Below w.heap.size w w'
set_option maxHeartbeats 1000000 in
theorem fresh_any {base rb n m cap : Nat} {D : Dir} {fl : Nat → Option Fl} {rv : Nat → Value} (hG : Good (freshS cap D fl) m) (hD : DirAt w rb n D) (hrb : base ≤ rb) (hF : FilesAt w base fl rv) :
    Calls Try.prog 31 #[.int .i64 (cap : Int), .map (some rb)] w (MadeP w base (freshS cap D fl) m) := by
  have hcl := clone_dir w rb n D hD
  have hrl := hD.lt
  have HD := Lib.hid hD
  have HF := Lib.hid hF
  have HG := Lib.hid hG
  clear hD hF hG
  go_enter Try.func31, Try.ntmps31
  go_wp2_with (go_at_call 44; refine hcl.mono ?_; rintro e w1 ⟨rfl, hd1, hd2, hb1⟩; have HD1 := Lib.hid hd1; have HD2 := Lib.hid hd2; have HB1 := Lib.hid hb1; clear hd1 hd2 hb1)
  go_ret
  have hs := HB1.out.size
  have hlen : D.length ≤ m := by have := HG.out.cnt2; simpa [freshS] using this
  refine ⟨w1.heap.size, rfl, ⟨HG.out, rb, w.heap.size, .slice none 0 0, rv, ?_⟩, HB1.out.alloc hs _⟩
  have g1 : w.grownBy w1 none := grown_below HB1.out (Nat.le_refl _) _
  have g2 := g1.trans (World.grownBy_alloc w1 (.cells (diskV (freshS cap D fl) rb w.heap.size (.slice none 0 0)) 54) none)
  exact {
    low := by omega
    blk := heap_alloc_new _ _
    fbl := hrb
    lbl := by omega
    ne := by omega
    files := (HD2.out.tight.mono hlen).alloc _
    last := (HD1.out.tight.mono hlen).alloc _
    since := World.ownsRow_nil _ _ _ _
    fil := HF.out.kept g2 (fun g e => by cases e) (fun g e => by cases e) }
def newS (cap : Nat) : DS := freshS cap [] (fun _ => none)
/-- What New hands back. -/
def NewD (w : World) (cap : Nat) (e : Ending) (w' : World) : Prop :=
  ∃ p, e = .returned (.tuple #[.pointer (some ⟨p, 0, none⟩), .int .i64 0]) ∧ Holds w' w.heap.size p (newS cap) 0 ∧ Below w.heap.size w w'
set_option maxHeartbeats 1000000 in
theorem new_any (cap : Nat) (h1 : 1 ≤ cap) (h2 : cap ≤ 16777216) : Calls Try.prog 9 #[.int .i64 (cap : Int)] w (NewD w cap) := by
  have hmm := @run_makeMap Try.prog
  have hG : Good (newS cap) 0 := fresh_good h1 h2 nil_ok (fun p hp => by simp at hp) (fun p hp => by simp at hp) (by simp) (fun k f h => by simp at h) (Nat.le_refl _)
  have hD : DirAt (w.alloc (.map #[] 0)) w.heap.size 0 [] := World.ownsMap_made w _ _ _
  have hfr := fresh_any (w := w.alloc (.map #[] 0)) (base := w.heap.size) (rv := fun _ => .slice none 0 0) hG hD (Nat.le_refl _) ⟨fun k f h => by simp at h, fun k f h => by simp at h, fun k f h => by simp at h, fun k f k' f' g h => by simp at h⟩
  clear hG hD
  go_enter Try.func9, Try.ntmps9
  go_wp2_with (go_at_call 31; refine hfr.mono ?_; rintro e w1 ⟨p, rfl, hh, hb⟩; have HH := Lib.hid hh; have HB := Lib.hid hb; clear hh hb)
  go_ret2
  exact ⟨p, rfl, HH.out, ((Below.refl _ _).alloc (Nat.le_refl _) _).trans (HB.out.mono (by simp))⟩
end

/-! ### what the list done again is -/
theorem redo_ok {fl : Nat → Option Fl} : ∀ (es : List En) (d : Dir) (ps : List Int), Dir.Ok d → (∀ p ∈ d, p.1.length ≤ 32) → (∀ p ∈ d, (fl p.2).isSome = true) →
    (∀ e ∈ es, e.name.length ≤ 32 ∧ e.to.length ≤ 32 ∧ (e.kind = 0 ∨ e.kind = 4 ∨ e.kind = 5) ∧ (e.kind = 0 → (fl e.made).isSome = true)) →
    Dir.Ok (redo d es ps) ∧ (∀ p ∈ redo d es ps, p.1.length ≤ 32) ∧ (∀ p ∈ redo d es ps, (fl p.2).isSome = true) ∧ (redo d es ps).length ≤ d.length + es.length
  | [], d, ps, h1, h2, h3, _ => ⟨h1, h2, h3, by simp [redo]⟩
  | e :: r, d, ps, h1, h2, h3, h4 => by
    obtain ⟨n1, n2, n3, n4⟩ := h4 e (by simp)
    have hstep : Dir.Ok (e.app d) ∧ (∀ p ∈ e.app d, p.1.length ≤ 32) ∧ (∀ p ∈ e.app d, (fl p.2).isSome = true) ∧ (e.app d).length ≤ d.length + 1 := by
      unfold En.app
      split
      · rename_i h0
        refine ⟨put_ok h1 _ _, fun p hp => ?_, fun p hp => ?_, length_put_le _ _ _⟩
        · rcases mem_put.1 hp with h | h
          · rw [h]; exact n1
          · exact h2 p h.1
        · rcases mem_put.1 hp with h | h
          · rw [h]; exact n4 h0
          · exact h3 p h.1
      · split
        · split
          · rename_i k hl
            refine ⟨put_ok (del_ok h1 _) _ _, fun p hp => ?_, fun p hp => ?_, ?_⟩
            · rcases mem_put.1 hp with h | h
              · rw [h]; exact n2
              · exact h2 p (mem_del.1 h.1).1
            · rcases mem_put.1 hp with h | h
              · rw [h]; exact h3 (e.name, k) (look_mem hl)
              · exact h3 p (mem_del.1 h.1).1
            · have a := length_put_le (Dir.del d e.name) e.to k
              have b := length_del_le d e.name
              omega
          · exact ⟨h1, h2, h3, by omega⟩
        · split
          · exact ⟨del_ok h1 _, fun p hp => h2 p (mem_del.1 hp).1, fun p hp => h3 p (mem_del.1 hp).1, by have := length_del_le d e.name; omega⟩
          · exact ⟨h1, h2, h3, by omega⟩
    unfold redo
    by_cases hc : (pickOf ps).tmod 2 = 1 ∧ e.can d = true
    · rw [if_pos hc]
      have := redo_ok r (e.app d) ps.tail hstep.1 hstep.2.1 hstep.2.2.1 (fun x hx => h4 x (by simp [hx]))
      refine ⟨this.1, this.2.1, this.2.2.1, ?_⟩
      have := this.2.2.2
      have := hstep.2.2.2
      simp only [List.length_cons]
      omega
    · rw [if_neg hc]
      have := redo_ok r d ps.tail h1 h2 h3 (fun x hx => h4 x (by simp [hx]))
      refine ⟨this.1, this.2.1, this.2.2.1, ?_⟩
      have := this.2.2.2
      simp only [List.length_cons]
      omega
theorem ok_keys : ∀ {d d' : Dir}, d.map (·.1) = d'.map (·.1) → Dir.Ok d → Dir.Ok d' := fun {d d'} h hd => by
  have h1 : (d.map (·.1)).Pairwise fun a b => bytesBefore a b = true := by rw [List.pairwise_map]; exact hd
  rw [h, List.pairwise_map] at h1
  exact h1
theorem put_mid : ∀ {pre : Dir} {s : Str} {k k' : Nat} {r : Dir}, Dir.Ok (pre ++ (s, k) :: r) → Dir.put (pre ++ (s, k) :: r) s k' = pre ++ (s, k') :: r := by
  intro pre s k k' r h
  have h1 : ∀ p ∈ pre, bytesBefore p.1 s = true := fun p hp => (List.pairwise_append.1 h).2.2 p hp (s, k) (by simp)
  have h2 := (List.pairwise_append.1 h).2.1
  have h3 : ∀ p ∈ r, bytesBefore s p.1 = true := fun p hp => (List.pairwise_cons.1 h2).1 p hp
  have hd : Dir.del (pre ++ (s, k) :: r) s = pre ++ r := by
    unfold Dir.del
    rw [List.filter_append, List.filter_cons]
    have a : pre.filter (fun p => !(p.1 == s)) = pre := List.filter_eq_self.2 fun p hp => by simpa using before_ne (h1 p hp)
    have b : r.filter (fun p => !(p.1 == s)) = r := List.filter_eq_self.2 fun p hp => by simpa using (before_ne (h3 p hp)).symm
    rw [a, b]
    simp
  unfold Dir.put
  rw [hd]
  clear hd h h2
  induction pre with
  | nil =>
    cases r with
    | nil => rfl
    | cons y t => simp only [List.nil_append, Dir.ins]; rw [if_pos (h3 y (by simp))]
  | cons y t ih =>
    have hn : bytesBefore s y.1 = false := by
      cases e : bytesBefore s y.1 with
      | false => rfl
      | true =>
        have := WideShapes.bytes_trans _ _ _ e (h1 y (by simp))
        rw [WideAt.bytes_irrefl] at this
        cases this
    simp only [List.cons_append, Dir.ins]
    rw [hn]
    simp only [Bool.false_eq_true, if_false]
    rw [ih (fun p hp => h1 p (by simp [hp]))]
end Go.Proofs.Ytcemfpbkaahcmaa
