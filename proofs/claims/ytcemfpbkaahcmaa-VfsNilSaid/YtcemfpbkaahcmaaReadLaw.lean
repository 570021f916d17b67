/- Contract: a file's bytes as a string, or the error. -/
import Derived.Test.YtcemfpbkaahcmaaCrash
import Derived.Test.YtcemfpbkaahcmaaAppendAny
import Derived.Deep.OwnRows
namespace Go.Proofs.Ytcemfpbkaahcmaa
open Go.RowKit Go.Shelf
set_option linter.unusedVariables false

/-- What the law's read says. -/
def DS.readS (S : DS) (nm : Str) : Str := if S.find nm true = 0 then (S.fileOf nm).b else [45, 48 + UInt8.ofNat (S.find nm true).toNat]
section
variable {w : World} {base p m : Nat} {S : DS}
def StrP (w : World) (l : Str) (e : Ending) (w' : World) : Prop := e = .returned (strV l) ∧ Below w.heap.size w w'
theorem Rd.two (w : World) (x y : UInt8) : Rd (w.alloc (.cells #[bv x, bv y] 5)) w.heap.size (w.heap.size + 1) (some ⟨w.heap.size, 0, none⟩) [x, y] := fun _ =>
  ⟨w.heap.size, 0, rfl, Nat.le_refl _, by omega, fun j v hv => by
    rw [cell_of_row _ _ _ _ _ (0, 0) (heap_alloc_new w _), Nat.zero_add]
    match j, hv with
    | 0, hv => simp at hv; subst hv; rfl
    | 1, hv => simp at hv; subst hv; rfl
    | j + 2, hv => simp at hv⟩
set_option maxHeartbeats 1000000 in
theorem read_any (h : Holds w base p S m) (nm : Str) (hn : nm.length ≤ maxLen) :
    Calls Try.prog 18 #[.pointer (some ⟨p, 0, none⟩), strV nm] w (StrP w (S.readS nm)) := by
  have hrd := read_disk h nm hn
  have hnum := fun e u => num_any e u
  by_cases hf : S.find nm true = 0
  · have hS : Hid (S.readS nm = (S.fileOf nm).b) := Lib.hid (by unfold DS.readS; rw [if_pos hf])
    have HF := Lib.hid hf
    clear hf
    go_enter Try.func18, Try.ntmps18
    go_wp2_with (first
      | (go_at_call 45; refine hrd.mono ?_; rintro e w1 ⟨v, rfl, hb, _, hv⟩; obtain ⟨A, c, rfl, hrow⟩ := hv HF.out; have HB := Lib.hid hb; have hstr := run_str (own_rd hrow) (S.fileOf nm).b.length c rfl; rw [HF.out]; clear hb hrow hv)
      | (go_at_call 10; refine (hnum 0 w1).mono ?_; rintro e w2 ⟨rfl, rfl⟩))
    go_ret
    rw [hS.out]
    exact ⟨rfl, HB.out⟩
  · have hc : S.find nm true = 2 ∨ S.find nm true = 6 := (find_cases S nm true).resolve_left hf
    obtain ⟨x, hx⟩ : ∃ x, x = S.find nm true := ⟨_, rfl⟩
    have hS : Hid (S.readS nm = [45, 48 + UInt8.ofNat x.toNat]) := Lib.hid (by unfold DS.readS; rw [if_neg hf, hx])
    unfold ReadP at hrd
    rw [← hx] at hrd hc hf
    have q : (x != 0) = true := by simpa using hf
    have q1 : 48 + x ≤ 255 := by omega
    have q2 : 0 ≤ 48 + x := by omega
    have HX := Lib.hid hc
    clear hx hc hf
    have HW := Lib.hid (fun (u : World) => run_str (Rd.two u 45 (48 + UInt8.ofNat x.toNat)) 2 2 rfl)
    have HV := Lib.hid (show bv (48 + UInt8.ofNat x.toNat) = .int .u8 (48 + x) by rcases HX.out with rfl | rfl <;> rfl)
    have H45 := Lib.hid (show bv 45 = .int .u8 45 from rfl)
    have HW2 : ∀ u : World, (convert 33 9 (.slice (some ⟨u.heap.size, 0, none⟩) 2 2)).run Try.prog (u.alloc (.cells #[.int .u8 45, .int .u8 (48 + x)] 5)) = .ok (strV [45, 48 + UInt8.ofNat x.toNat]) (u.alloc (.cells #[.int .u8 45, .int .u8 (48 + x)] 5)) := fun u => by
      have := HW.out u
      rw [HV.out, H45.out] at this
      exact this
    clear HW
    go_enter Try.func18, Try.ntmps18
    go_wp2_with (first
      | (go_at_call 45; refine hrd.mono ?_; rintro e w1 ⟨v, rfl, hb, hv, _⟩; obtain rfl := hv (by have := HX.out; omega); have HB := Lib.hid hb; have hcv := HW2 w1; clear hb)
      | (go_at_call 10; refine (hnum x w1).mono ?_; rintro e w2 ⟨rfl, rfl⟩))
    go_ret
    rw [hS.out]
    exact ⟨rfl, HB.out.alloc HB.out.size _⟩
end
end Go.Proofs.Ytcemfpbkaahcmaa
