/- Contract: how many bytes more there may be. -/
import Derived.Test.YtcemfpbkaahcmaaSyncDir
import Derived.Maps.RangeWalk
namespace Go.Proofs.Ytcemfpbkaahcmaa
open Go.RowKit Go.Shelf
set_option linter.unusedVariables false

def lenOf (fl : Nat → Option Fl) (k : Nat) : Nat := match fl k with | some f => f.b.length | none => 0
def sumLeft (fl : Nat → Option Fl) (left : Lit → Bool) : Dir → Nat
  | [] => 0
  | p :: r => (if left (.string p.1) then lenOf fl p.2 else 0) + sumLeft fl left r
theorem sumL_eq (fl : Nat → Option Fl) (d : Dir) : sumL fl d = (d.map fun p => lenOf fl p.2).sum := rfl
theorem sumL_cons (fl : Nat → Option Fl) (p : Str × Nat) (d : Dir) : sumL fl (p :: d) = lenOf fl p.2 + sumL fl d := by simp [sumL_eq]
theorem has_toD (d : Dir) (s : Str) : Maps.has (toD d) (.string s) = true ↔ ∃ k, (s, k) ∈ d := by
  show (d.map toE).any (fun p => p.1.sameKey (.string s)) = true ↔ _
  rw [List.any_eq_true]
  constructor
  · rintro ⟨x, hx, h⟩
    obtain ⟨y, hy, rfl⟩ := List.mem_map.1 hx
    have : y.1 = s := by have h' : (y.1 == s) = true := h; simpa using h'
    exact ⟨y.2, by rw [← this]; exact hy⟩
  · rintro ⟨k, hk⟩
    exact ⟨toE (s, k), List.mem_map.2 ⟨_, hk, rfl⟩, by show (s == s) = true; simp⟩
theorem sumLeft_all (fl : Nat → Option Fl) (left : Lit → Bool) : ∀ d : Dir, (∀ p ∈ d, left (.string p.1) = true) → sumLeft fl left d = sumL fl d
  | [], _ => rfl
  | p :: r, h => by
    rw [sumL_cons, sumLeft, if_pos (h p (by simp)), sumLeft_all fl left r (fun q hq => h q (by simp [hq]))]
theorem sumLeft_none (fl : Nat → Option Fl) (left : Lit → Bool) : ∀ d : Dir, (∀ p ∈ d, left (.string p.1) = false) → sumLeft fl left d = 0
  | [], _ => rfl
  | p :: r, h => by
    rw [sumLeft, h p (by simp), sumLeft_none fl left r (fun q hq => h q (by simp [hq]))]
    simp
theorem sumLeft_same (fl : Nat → Option Fl) (l1 l2 : Lit → Bool) : ∀ d : Dir, (∀ p ∈ d, l1 (.string p.1) = l2 (.string p.1)) → sumLeft fl l1 d = sumLeft fl l2 d
  | [], _ => rfl
  | p :: r, h => by
    rw [sumLeft, sumLeft, h p (by simp), sumLeft_same fl l1 l2 r (fun q hq => h q (by simp [hq]))]
theorem sumLeft_step (fl : Nat → Option Fl) (left : Lit → Bool) {d : Dir} (hd : Dir.Ok d) {s : Str} {k : Nat} (hm : (s, k) ∈ d) (hl : left (.string s) = true) :
    sumLeft fl left d = lenOf fl k + sumLeft fl (fun z => left z && !z.sameKey (.string s)) d := by
  induction d with
  | nil => simp at hm
  | cons p r ih =>
    obtain ⟨h1, h2⟩ := List.pairwise_cons.1 hd
    rcases List.mem_cons.1 hm with e | hm'
    · subst e
      rw [sumLeft, sumLeft, if_pos hl]
      have hself : (left (.string s) && !(Lit.string s).sameKey (.string s)) = false := by
        have : (Lit.string s).sameKey (.string s) = true := by show (s == s) = true; simp
        rw [this]; simp
      rw [hself]
      have hrest : sumLeft fl left r = sumLeft fl (fun z => left z && !z.sameKey (.string s)) r := sumLeft_same fl _ _ r (fun q hq => by
        have hne := before_ne (h1 q hq)
        have : (Lit.string q.1).sameKey (.string s) = false := by show (q.1 == s) = false; simpa using Ne.symm hne
        simp [this])
      rw [hrest]
      simp
    · have hne := before_ne (h1 _ hm')
      rw [sumLeft, sumLeft, ih h2 hm']
      have : (Lit.string p.1).sameKey (.string s) = false := by show (p.1 == s) = false; simpa using hne
      simp only [this, Bool.not_false, Bool.and_true]
      omega
theorem sumLeft_le (fl : Nat → Option Fl) (left : Lit → Bool) : ∀ d : Dir, sumLeft fl left d ≤ sumLeft fl (fun _ => true) d
  | [] => Nat.le_refl _
  | p :: r => by
    have := sumLeft_le fl left r
    simp only [sumLeft]
    split <;> simp <;> omega
theorem sumL_le {fl : Nat → Option Fl} {c : Nat} (h : ∀ k f, fl k = some f → f.b.length ≤ c) : ∀ d : Dir, sumL fl d ≤ d.length * c
  | [] => by simp [sumL_eq]
  | p :: r => by
    rw [sumL_cons]
    have := sumL_le h r
    have h1 : lenOf fl p.2 ≤ c := by
      unfold lenOf
      split
      · rename_i f e; exact h _ f e
      · omega
    simp only [List.length_cons, Nat.add_mul]
    omega
theorem mem_sumL {fl : Nat → Option Fl} {d : Dir} {p : Str × Nat} (h : p ∈ d) : lenOf fl p.2 ≤ sumL fl d := by
  induction d with
  | nil => simp at h
  | cons q r ih =>
    rw [sumL_cons]
    rcases List.mem_cons.1 h with rfl | h
    · omega
    · have := ih h; omega

/-- What an entry that a range hands over is. -/
theorem entry_of {d : Dir} {s : Str} {kl : Lit} {c : Option Nat} {y : DataW Unit × List MemPlace} (hkey : keyOf Try.prog 9 (strV s) = some kl) (hv : ptrR (ptrOf c) = some y) (hat : ∀ zd, (toD d).atKey kl zd = y.1) :
    kl = .string s ∧ s.length ≤ maxLen ∧ ∃ k, c = some k ∧ (s, k) ∈ d := by
  obtain ⟨x, hx, rfl, hxl⟩ := Maps.keyOf_str Try.underlying9 hkey
  have hsx : s = x := encStr_inj hx
  subst hsx
  refine ⟨rfl, hxl, ?_⟩
  cases hl : Dir.look d s with
  | none =>
    have h1 := hat .nil
    have h2 := hat (datE 0)
    rw [toD_at, hl] at h1 h2
    rw [← h1] at h2
    simp [datE] at h2
  | some k =>
    have h1 := hat .nil
    rw [toD_at, hl] at h1
    refine ⟨k, ?_, look_mem hl⟩
    cases c with
    | none =>
      have : y = (.nil, []) := by simpa [ptrOf, ptrR] using hv.symm
      rw [this] at h1
      simp [datE] at h1
    | some j =>
      have : y = (datE j, []) := by simpa [ptrOf, ptrR] using hv.symm
      rw [this] at h1
      rw [datE_inj h1]
theorem int_eq {k : IntKind} {a b : Int} (h : a = b) : Value.int k a = .int k b := by rw [h]

section
variable {w : World} {base p : Nat} {S : DS} {fb lb m : Nat} {sv : Value} {rv : Nat → Value}
def RoomP (w : World) (r : Int) (e : Ending) (w' : World) : Prop := e = .returned (.int .i64 r) ∧ Below w.heap.size w w'
theorem room_nil (v : Value) (hnone : Calls Try.prog 33 #[v] w fun e w' => e = .returned (.bool true) ∧ w = w') :
    Calls Try.prog 20 #[v] w fun e w' => e = .returned (.int .i64 0) ∧ w = w' := by
  go_enter Try.func20, Try.ntmps20
  go_wp2_with (go_at_call 33; refine hnone.mono ?_; rintro e w' ⟨rfl, rfl⟩)
  go_ret
  exact ⟨rfl, rfl⟩
set_option maxHeartbeats 1000000 in
theorem room_any (hG : Good S m) (hM : Mem w base p S fb lb sv rv m) (hm : m ≤ 1073741824) :
    Calls Try.prog 20 #[.pointer (some ⟨p, 0, none⟩)] w (RoomP w S.room) := by
  have hnone := none_disk hG hM
  obtain ⟨c0, c1, _⟩ := disk_cells hM.blk
  have HM := Lib.hid hM
  have HG := Lib.hid hG
  have hown := hM.files
  clear hM hG
  go_enter Try.func20, Try.ntmps20
  go_wp2_with (first
    | (go_at_call 33; refine hnone.mono ?_; rintro e w' ⟨rfl, rfl⟩)
    | (at_range; refine wpList_range_own _ rfl _ 49 rfl 9 68 law9 Try.underlying49 ptrR fb m (toD S.D) rfl hown ?_; intro w0 hrg0 hg0 hs0))
  go_frame
  have hb0 := below_grown hg0 (Nat.le_refl _) (fun k e => by cases e)
  clear hg0 hs0 hown hnone c0 c1
  have HG2 := HG.out
  have hsum := sumL_le (fun k f h => (HG2.las k f h).2) S.D
  have hlen : S.D.length ≤ m := Nat.le_trans HG2.cnt HG2.cnt2
  have hcap := HG2.cap2
  have hbig : S.D.length * S.cap ≤ 1073741824 * 16777216 := Nat.mul_le_mul (by omega) hcap
  have hok := HG2.okD
  have hdom := HG2.domD
  clear HG2
  have HO := Lib.hid hok
  have HDM := Lib.hid hdom
  clear hok hdom
  obtain ⟨it, hit⟩ : ∃ it, it = w.heap.size := ⟨_, rfl⟩
  rw [← hit] at hrg0 ⊢
  have HIT := Lib.hid hit
  clear hit
  go_loopw [3] (fun u3 wr => ∃ left cnt, wr.ranges Try.prog 9 ptrR fb it m (toD S.D) left cnt ∧ u3 = .int .i64 ((S.cap : Int) - sumL S.fl S.D + sumLeft S.fl left S.D) ∧ Below w.heap.size w wr) (fun _ wr => wr.rangeLeft fb it)
  case atStart => exact ⟨_, _, hrg0, by rw [sumLeft_all _ _ _ (fun q hq => (has_toD _ _).2 ⟨q.2, hq⟩)]; go_num, hb0⟩
  case round =>
    obtain ⟨left, cnt, hrg, rfl, hbr⟩ := hrel
    go_wp2_with (first | (at_next; refine wpList_next_ranges _ rfl _ rfl 9 law9 ptrR strV ptrOf (fun key kl hk => by obtain ⟨x, hx, _⟩ := Maps.keyOf_str Try.underlying9 hk; exact ⟨x, hx⟩) (fun v y hv => by rcases ptrR_inv hv with ⟨rfl, _⟩ | ⟨k, rfl, _⟩; exact ⟨none, rfl⟩; exact ⟨some k, rfl⟩) fb it m _ _ _ rfl hrg ?_ ?_))
    · intro hc0 hl0
      have e0 : sumLeft S.fl left S.D = 0 := sumLeft_none _ _ _ (fun q hq => hl0 _)
      rw [e0]
      clear e0
      go_wp2
      go_ret
      refine ⟨?_, hbr⟩
      simp [DS.room]
    · intro s c kl yd yp w1 cnt1 hkey hlk hv hat hrg1 hlt hg1 hs1 hen
      obtain ⟨rfl, hsl, k, rfl, hmem⟩ := entry_of hkey hv hat
      have hstep := sumLeft_step S.fl left HO.out hmem hlk
      obtain ⟨f, hf⟩ := Option.isSome_iff_exists.1 (HDM.out _ hmem)
      have hfl : lenOf S.fl k = f.b.length := by simp only [lenOf, hf]
      rw [hfl] at hstep
      have hble := mem_sumL (fl := S.fl) hmem
      have hb1 := hbr.grown hg1 hbr.size (fun j e => by cases e; exact Nat.le_of_eq HIT.out.symm)
      have HM2 := HM.out
      have hrow := HM2.fil.row k f hf
      obtain ⟨A, c', hv', _⟩ := row_form hrow
      have hblk := HM2.fil.blk k f hf
      rw [hv'] at hblk
      have d0 := (file_cells ((hb1.block k (lt_of_block hblk)).trans hblk)).1
      have hleft : sumLeft S.fl left S.D ≤ sumL S.fl S.D := by
        rw [← sumLeft_all S.fl (fun _ => true) S.D (fun _ _ => rfl)]
        exact sumLeft_le S.fl left S.D
      obtain ⟨a, ha⟩ : ∃ a, a = sumLeft S.fl left S.D := ⟨_, rfl⟩
      rw [← ha] at hstep hleft ⊢
      have HS := Lib.hid hstep
      have hfb : f.b.length ≤ a := by omega
      clear HM2 hrow hv' hblk hfl hf hstep ha hmem hkey hv hat hbr hs1 hble
      simp only [ptrOf] at hen ⊢
      go_wp2
      go_roundw
      case rel => exact ⟨_, _, hrg1, int_eq (by have := HS.out; omega), hb1⟩
      case measure => rw [hrg1.left_eq, hrg.left_eq]; omega
end
end Go.Proofs.Ytcemfpbkaahcmaa
