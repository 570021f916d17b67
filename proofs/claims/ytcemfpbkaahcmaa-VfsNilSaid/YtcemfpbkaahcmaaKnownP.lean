/- Plain facts: the chapter's rows, step by step. -/
import Derived.Test.YtcemfpbkaahcmaaReadLaw
namespace Go.Proofs.Ytcemfpbkaahcmaa
set_option linter.unusedVariables false

def sA : Str := [97]
def sB : Str := [98]
def K1 (k : Nat) : DS := ⟨99, [(sA, k)], [], [⟨0, sA, [], k⟩], -1, 0, 0, false, 1, upd (fun _ => none) k (some ⟨[], 0⟩)⟩
theorem may_a : mayB sA = true := by decide
theorem may_b : mayB sB = true := by decide
theorem k1 (k : Nat) : (newS 99).make sA k = (0, K1 k) := by
  have h1 : (newS 99).find sA true = 6 := by simp [DS.find, may_a, newS, freshS, Dir.look]
  unfold DS.make
  rw [h1]
  simp only [newS, freshS, DS.enter, DS.next, DS.meet, DS.fault, DS.burn, En.app, Dir.put, Dir.del, K1]
  simp
  rfl
def xyz : List UInt8 := [120, 121, 122]
def xyzuv : List UInt8 := [120, 121, 122, 117, 118]
def flK (k : Nat) (b : List UInt8) (n : Nat) : Nat → Option Fl := fun j => if j = k then some ⟨b, n⟩ else none
theorem flK_same (k : Nat) (b : List UInt8) (n : Nat) : flK k b n k = some ⟨b, n⟩ := if_pos rfl
theorem flK_upd (k : Nat) (b b' : List UInt8) (n n' : Nat) : upd (flK k b n) k (some ⟨b', n'⟩) = flK k b' n' := by
  funext j
  unfold upd flK
  by_cases h : j = k <;> simp [h]
theorem flK_new (k : Nat) (b : List UInt8) (n : Nat) : upd (fun _ => none) k (some ⟨b, n⟩) = flK k b n := rfl
def KS (D L : Dir) (es : List En) (fuse fa fc : Int) (dead : Bool) (ch : Int) (k : Nat) (b : List UInt8) (n : Nat) : DS := ⟨99, D, L, es, fuse, fa, fc, dead, ch, flK k b n⟩
def eMake (k : Nat) : En := ⟨0, sA, [], k⟩
def eRen : En := ⟨4, sA, sB, 0⟩
theorem k1' (k : Nat) : (newS 99).make sA k = (0, KS [(sA, k)] [] [eMake k] (-1) 0 0 false 1 k [] 0) := k1 k
theorem find_a (L : Dir) (es : List En) (fuse fa fc : Int) (dead : Bool) (ch : Int) (k : Nat) (b : List UInt8) (n : Nat) : (KS [(sA, k)] L es fuse fa fc dead ch k b n).find sA true = 0 := by
  simp [DS.find, may_a, KS, Dir.look]
theorem find_b (L : Dir) (es : List En) (fuse fa fc : Int) (dead : Bool) (ch : Int) (k : Nat) (b : List UInt8) (n : Nat) : (KS [(sB, k)] L es fuse fa fc dead ch k b n).find sB true = 0 := by
  simp [DS.find, may_b, KS, Dir.look]
theorem file_a (s : Str) (L : Dir) (es : List En) (fuse fa fc : Int) (dead : Bool) (ch : Int) (k : Nat) (b : List UInt8) (n : Nat) : (KS [(s, k)] L es fuse fa fc dead ch k b n).fileOf s = ⟨b, n⟩ ∧ (KS [(s, k)] L es fuse fa fc dead ch k b n).numOf s = k := by
  simp [DS.fileOf, DS.numOf, KS, Dir.look, flK_same]
theorem room_a (s : Str) (L : Dir) (es : List En) (fuse fa fc : Int) (dead : Bool) (ch : Int) (k : Nat) (b : List UInt8) (n : Nat) : (KS [(s, k)] L es fuse fa fc dead ch k b n).room = max ((99 : Int) - (b.length : Int)) 0 := by
  simp [DS.room, KS, sumL, flK_same]
theorem next_k (D L : Dir) (es : List En) (ch : Int) (k : Nat) (b : List UInt8) (n : Nat) : (KS D L es (-1) 0 0 false ch k b n).next = (0, KS D L es (-1) 0 0 false (ch + 1) k b n) := by
  simp [DS.next, DS.meet, DS.fault, DS.burn, KS]
theorem set_k (D L : Dir) (es : List En) (fuse fa fc : Int) (dead : Bool) (ch : Int) (k : Nat) (b b' : List UInt8) (n n' : Nat) : (KS D L es fuse fa fc dead ch k b n).setFile k ⟨b', n'⟩ = KS D L es fuse fa fc dead ch k b' n' := by
  unfold DS.setFile KS
  simp only [flK_upd]
theorem k2 (k : Nat) : (KS [(sA, k)] [] [eMake k] (-1) 0 0 false 1 k [] 0).append sA xyz = (0, KS [(sA, k)] [] [eMake k] (-1) 0 0 false 2 k xyz 0) := by
  unfold DS.append
  rw [find_a, room_a, next_k, (file_a _ _ _ _ _ _ _ _ _ _ _).1, (file_a _ _ _ _ _ _ _ _ _ _ _).2]
  rw [if_neg (by simp), if_neg (by decide), if_neg (by simp [KS]), if_neg (by simp), set_k]
  rfl
theorem k3 (k : Nat) : (KS [(sA, k)] [] [eMake k] (-1) 0 0 false 2 k xyz 0).sync sA = (0, KS [(sA, k)] [] [eMake k] (-1) 0 0 false 3 k xyz 3) := by
  unfold DS.sync
  rw [find_a, next_k, (file_a _ _ _ _ _ _ _ _ _ _ _).1, (file_a _ _ _ _ _ _ _ _ _ _ _).2]
  rw [if_neg (by simp), if_neg (by simp [KS]), if_pos rfl, set_k]
  rfl
theorem k4 (k : Nat) : (KS [(sA, k)] [] [eMake k] (-1) 0 0 false 3 k xyz 3).syncDir = (0, KS [(sA, k)] [(sA, k)] [] (-1) 0 0 false 4 k xyz 3) := by
  unfold DS.syncDir
  rw [next_k, if_neg (by simp [KS]), if_pos rfl]
  rfl
theorem k5 (k : Nat) : (KS [(sA, k)] [(sA, k)] [] (-1) 0 0 false 4 k xyz 3).append sA [117, 118] = (0, KS [(sA, k)] [(sA, k)] [] (-1) 0 0 false 5 k xyzuv 3) := by
  unfold DS.append
  rw [find_a, room_a, next_k, (file_a _ _ _ _ _ _ _ _ _ _ _).1, (file_a _ _ _ _ _ _ _ _ _ _ _).2]
  rw [if_neg (by simp), if_neg (by decide), if_neg (by simp [KS]), if_neg (by simp), set_k]
  rfl
theorem k6 (k : Nat) : (KS [(sA, k)] [(sA, k)] [] (-1) 0 0 false 5 k xyzuv 3).rename sA sB = (0, KS [(sB, k)] [(sA, k)] [eRen] (-1) 0 0 false 6 k xyzuv 3) := by
  unfold DS.rename
  rw [may_b, find_a, if_neg (by simp)]
  unfold DS.enter
  rw [next_k, if_neg (by simp [KS]), if_pos rfl]
  rfl
theorem k7 (k : Nat) : (KS [(sB, k)] [(sA, k)] [eRen] (-1) 0 0 false 6 k xyzuv 3).lay 0 9 = (0, KS [(sB, k)] [(sA, k)] [eRen] (-1) 0 9 false 6 k xyzuv 3) := by
  unfold DS.lay
  rw [if_neg (by simp)]
  rfl
theorem next_9 (k : Nat) : (KS [(sB, k)] [(sA, k)] [eRen] (-1) 0 9 false 6 k xyzuv 3).next = (9, KS [(sB, k)] [(sA, k)] [eRen] (-1) 0 0 false 7 k xyzuv 3) := by
  simp [DS.next, DS.meet, DS.fault, DS.burn, KS]
theorem k8 (k : Nat) : (KS [(sB, k)] [(sA, k)] [eRen] (-1) 0 9 false 6 k xyzuv 3).append sB [119, 119, 119, 119] = (9, KS [(sB, k)] [(sA, k)] [eRen] (-1) 0 0 false 7 k (xyzuv ++ [119, 119]) 3) := by
  unfold DS.append
  rw [find_b, room_a, next_9, (file_a _ _ _ _ _ _ _ _ _ _ _).1, (file_a _ _ _ _ _ _ _ _ _ _ _).2]
  rw [if_neg (by simp), if_neg (by decide), if_neg (by simp [KS]), if_neg (by simp), set_k]
  rfl
theorem k9 (k : Nat) (b : List UInt8) : (KS [(sB, k)] [(sA, k)] [eRen] (-1) 0 0 false 7 k b 3).setFuse 0 = KS [(sB, k)] [(sA, k)] [eRen] 0 0 0 false 7 k b 3 := rfl
theorem next_8 (k : Nat) (b : List UInt8) : (KS [(sB, k)] [(sA, k)] [eRen] 0 0 0 false 7 k b 3).next = (8, KS [(sB, k)] [(sA, k)] [eRen] 0 0 0 true 8 k b 3) := by
  simp [DS.next, DS.meet, DS.fault, DS.burn, KS]
theorem k10 (k : Nat) (b : List UInt8) : (KS [(sB, k)] [(sA, k)] [eRen] 0 0 0 false 7 k b 3).remove sB = (8, KS [(sB, k)] [(sA, k)] [eRen] 0 0 0 true 8 k b 3) := by
  unfold DS.remove
  rw [find_b, if_neg (by simp)]
  unfold DS.enter
  rw [next_8, if_neg (by simp [KS]), if_neg (by simp)]
theorem read_k (s : Str) (hs : mayB s = true) (L : Dir) (es : List En) (fuse fa fc : Int) (dead : Bool) (ch : Int) (k : Nat) (b : List UInt8) (n : Nat) : (KS [(s, k)] L es fuse fa fc dead ch k b n).readS s = b := by
  have h : (KS [(s, k)] L es fuse fa fc dead ch k b n).find s true = 0 := by simp [DS.find, hs, KS, Dir.look]
  unfold DS.readS
  rw [if_pos h, (file_a _ _ _ _ _ _ _ _ _ _ _).1]
/-! ### what is read behind a loss of power -/
theorem fresh_empty {S : DS} {c : Nat} (h : Fresh S c []) (s : Str) (hs : mayB s = true) : S.readS s = [45, 54] := by
  have hv := h.view
  have hD : S.D = [] := by simpa [DS.view] using hv
  have hf : S.find s true = 6 := by simp [DS.find, hs, hD, Dir.look]
  unfold DS.readS
  rw [hf]
  rfl
theorem fresh_one {S : DS} {c : Nat} {s : Str} {b : List UInt8} (h : Fresh S c [(s, b)]) (hs : mayB s = true) : S.readS s = b := by
  have hv := h.view
  unfold DS.view at hv
  cases hD : S.D with
  | nil => rw [hD] at hv; simp at hv
  | cons p r =>
    rw [hD] at hv
    simp only [List.map_cons, List.map_nil, List.cons.injEq, List.map_eq_nil_iff, Prod.mk.injEq] at hv
    obtain ⟨⟨h1, h2⟩, h3⟩ := hv
    obtain ⟨f, hf, hfe⟩ := Option.map_eq_some_iff.1 h2
    have hl : S.D.look s = some p.2 := by rw [hD]; simp [Dir.look, h1]
    have h0 : S.find s true = 0 := by simp [DS.find, hs, hl]
    unfold DS.readS
    rw [if_pos h0, fileOf_eq hl hf]
    exact (Prod.mk.inj hfe).1
theorem c1 {S' : DS} {k : Nat} (h : Crashed (KS [(sA, k)] [] [eMake k] (-1) 0 0 false 3 k xyz 3) [] S') : S'.readS sA = [45, 54] := fresh_empty h sA may_a
theorem c2 {S' : DS} {k : Nat} (h : Crashed (KS [(sA, k)] [] [eMake k] (-1) 0 0 false 3 k xyz 3) [1] S') : S'.readS sA = xyz := by
  refine fresh_one (c := 99) (?_ : Fresh S' 99 [(sA, xyz)]) may_a
  have : keep (KS [(sA, k)] [] [eMake k] (-1) 0 0 false 3 k xyz 3).fl (redo [] [eMake k] [1]) (([1] : List Int).drop 1) = [(sA, xyz)] := by
    have hr : redo [] [eMake k] [1] = [(sA, k)] := by rfl
    rw [hr]
    simp [keep, KS, flK_same, keepF, xyz]
  rw [← this]
  exact h
theorem c3 {S' : DS} {k : Nat} (h : Crashed (KS [(sB, k)] [(sA, k)] [eRen] (-1) 0 0 false 6 k xyzuv 3) [0, 1] S') : S'.readS sA = [120, 121, 122, 117] := by
  refine fresh_one (c := 99) (?_ : Fresh S' 99 [(sA, [120, 121, 122, 117])]) may_a
  have : keep (KS [(sB, k)] [(sA, k)] [eRen] (-1) 0 0 false 6 k xyzuv 3).fl (redo [(sA, k)] [eRen] [0, 1]) (([0, 1] : List Int).drop 1) = [(sA, [120, 121, 122, 117])] := by
    have hr : redo [(sA, k)] [eRen] [0, 1] = [(sA, k)] := by rfl
    rw [hr]
    simp [keep, KS, flK_same]
    rfl
  rw [← this]
  exact h
theorem c4 {S' : DS} {k : Nat} (h : Crashed (KS [(sB, k)] [(sA, k)] [eRen] (-1) 0 0 false 6 k xyzuv 3) [1, 2] S') : S'.readS sB = xyzuv := by
  refine fresh_one (c := 99) (?_ : Fresh S' 99 [(sB, xyzuv)]) may_b
  have : keep (KS [(sB, k)] [(sA, k)] [eRen] (-1) 0 0 false 6 k xyzuv 3).fl (redo [(sA, k)] [eRen] [1, 2]) (([1, 2] : List Int).drop 1) = [(sB, xyzuv)] := by
    have hr : redo [(sA, k)] [eRen] [1, 2] = [(sB, k)] := by rfl
    rw [hr]
    simp [keep, KS, flK_same]
    rfl
  rw [← this]
  exact h
end Go.Proofs.Ytcemfpbkaahcmaa
