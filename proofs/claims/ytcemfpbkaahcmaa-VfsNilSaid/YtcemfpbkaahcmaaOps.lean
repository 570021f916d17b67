/- Contracts: Make, Rename, Remove. -/
import Derived.Test.YtcemfpbkaahcmaaEnter
namespace Go.Proofs.Ytcemfpbkaahcmaa
open Go.RowKit Go.Shelf
set_option linter.unusedVariables false

def enQ (e : En) : Option Addr := if e.kind = 0 then some ⟨e.made, 0, none⟩ else none
theorem enV_eq (e : En) : enV e = [.int .i64 (e.kind : Int), strV e.name, strV e.to, .pointer (enQ e)] := by
  unfold enV enQ
  split <;> rfl
theorem le_max {n : Nat} (h : n ≤ 32) : n ≤ maxLen := by unfold maxLen; omega

section
variable {w w' : World} {base p : Nat} {S : DS} {fb lb m : Nat} {sv : Value} {rv : Nat → Value}
theorem apply_en {e : En} (hF : Fits S e) (hm : m ≤ 1073741824) (u : World) (hu : DirAt u fb m S.D) :
    Calls Try.prog 54 #[.agg #[.int .i64 (e.kind : Int), strV e.name, strV e.to, .pointer (enQ e)], .map (some fb)] u fun e' w' => e' = .returned (.tuple #[]) ∧ DirTo u fb (m + 1) (e.app S.D) w' := by
  obtain ⟨kd, nm, to, mk⟩ := e
  rcases hF.kind with h | h | h
  · simp only at h
    subst h
    exact apply_make nm to mk hu hm (le_max hF.nm)
  · simp only at h
    subst h
    obtain ⟨k, hk⟩ := hF.ren rfl
    have : En.app ⟨4, nm, to, mk⟩ S.D = (S.D.del nm).put to k := by
      unfold En.app
      simp only at hk ⊢
      rw [hk]
      rfl
    rw [this]
    exact apply_rename nm to none k hu hm (le_max hF.nm) (le_max hF.to) hk
  · simp only at h
    subst h
    refine (apply_remove nm to none hu (le_max hF.nm)).mono ?_
    rintro e w1 ⟨rfl, h1, h2⟩
    exact ⟨rfl, h1, h2.mono (by omega)⟩

set_option maxHeartbeats 1000000 in
theorem enter_change (hG : Good S m) (hM : Mem w base p S fb lb sv rv m) (hm : m ≤ 1073741824) {e : En} (hF : Fits S e) {bx bd : Nat}
    (hx : w.heap[bx]? = some (.cells #[.int .i64 (e.kind : Int), strV e.name, strV e.to, .pointer (enQ e)] 82 (0, 0))) (hd : w.heap[bd]? = some (.cells #[.pointer (some ⟨p, 0, none⟩)] 26 (0, 0))) (hsx : sv.ownBlock ≠ some bx) :
    Calls Try.prog 41 #[.pointer (some ⟨p, 0, none⟩), .int .i64 (e.kind : Int), .func (.func 61) #[] #[.pointer (some ⟨bx, 0, none⟩), .pointer (some ⟨bd, 0, none⟩)]] w (StepP w base p (S.enter e) (m + 1)) := by
  by_cases hdd : S.dead = true
  · refine (change_dead hM.blk hdd e.kind _).mono ?_
    rintro e' w' ⟨rfl, rfl⟩
    have hS : S.enter e = (8, S) := by unfold DS.enter; rw [if_pos hdd]
    rw [hS]
    exact ⟨rfl, ⟨hG.mono (by omega), fb, lb, sv, rv, hM.mono (by omega)⟩, Below.refl _ _⟩
  · have hd' : S.dead = false := by simpa using hdd
    have hlv : leaves e.kind S.next.1 = false := by
      rcases hF.kind with h | h | h <;> simp [leaves, h]
    have hch := change_live hG hm hM.blk hd' e.kind 61 #[.pointer (some ⟨bx, 0, none⟩), .pointer (some ⟨bd, 0, none⟩)] (enters_of Try.func61 (by kernel_rfl) rfl) (fun w' => Holds w' base p (S.enter e).2 (m + 1) ∧ Below base w w')
      (fun hyes w2 hT => by
        have hz : S.next.1 = 0 := by
          rcases hyes with h | h
          · exact h
          · rw [hlv] at h; cases h
        have hS : S.enter e = (0, { S.next.2 with D := e.app S.next.2.D, es := S.next.2.es ++ [e] }) := by unfold DS.enter; rw [if_neg hdd, if_pos hz]
        have hM2 := hM.met hT
        have hs := next_same S
        have hG2 := next_good hG
        have hF2 : Fits S.next.2 e := ⟨hF.nm, hF.to, hF.kind, fun h0 => by rw [hs.fl, hs.D]; exact hF.mkd h0, fun h4 => by rw [hs.D]; exact hF.ren h4⟩
        have hx2 := (hT.1.block _ (lt_of_block hx) (fun e => by injection e with e; exact ne_types hx hM.blk (by decide) e)).trans hx
        have hd2 := (hT.1.block _ (lt_of_block hd) (fun e => by injection e with e; exact ne_types hd hM.blk (by decide) e)).trans hd
        have hlen : S.next.2.es.length ≤ 1073741824 := by rw [hs.es]; have := hG.cnt2; omega
        refine (enter_do S.next.1 hM2.blk hM2.files hx2 hd2 hM2.since hlen hsx hM2.baseLe (fun u hu => apply_en hF2 hm u hu)).mono ?_
        rintro e' w3 ⟨rfl, hQ⟩
        refine ⟨rfl, ?_, ?_⟩
        · rw [hS]
          have hQ' : EnterQ w2 base p S.next.2 fb lb m sv (e.app S.next.2.D) (enV e) w3 := by rw [enV_eq]; exact hQ
          obtain ⟨sv', hM3⟩ := mem_entered hM2 hQ'
          refine ⟨app_good hG2 ?_ hF2, fb, lb, sv', rv, hM3⟩
          rw [hs.L, hs.es]
          have := hG.cnt2
          omega
        · exact ((Below.refl _ w).grown hT.1 hM.baseLe (fun j e => by cases e; exact hM.low)).trans (enterQ_below hM2 hQ))
      (fun hno w2 hT => by
        have hz : ¬ S.next.1 = 0 := fun e => hno (.inl e)
        have hS : S.enter e = (S.next.1, S.next.2) := by unfold DS.enter; rw [if_neg hdd, if_neg hz]
        rw [hS]
        exact ⟨⟨next_good hG, fb, lb, sv, rv, (hM.met hT).mono (by omega)⟩, (Below.refl _ w).grown hT.1 hM.baseLe (fun j e => by cases e; exact hM.low)⟩)
    have hS : (S.enter e).1 = S.next.1 := by
      unfold DS.enter; rw [if_neg hdd]
      split
      · rename_i h0; exact h0.symm
      · rfl
    refine hch.mono ?_
    rintro e' w' ⟨rfl, hQ⟩
    exact ⟨by rw [hS], hQ.1, hQ.2⟩

set_option maxHeartbeats 1000000 in
theorem enter_any (hG : Good S m) (hM : Mem w base p S fb lb sv rv m) (hm : m ≤ 1073741824) {e : En} (hF : Fits S e) :
    Calls Try.prog 46 #[.pointer (some ⟨p, 0, none⟩), .agg #[.int .i64 (e.kind : Int), strV e.name, strV e.to, .pointer (enQ e)]] w (StepP w base p (S.enter e) (m + 1)) := by
  have hbase := hM.baseLe
  have hM1 := hM.alloc (.cells #[.pointer (some ⟨p, 0, none⟩)] 26)
  have hM2 := hM1.alloc (.cells #[.int .i64 (e.kind : Int), strV e.name, strV e.to, .pointer (enQ e)] 82)
  have hbox0 := (Below.heap_alloc (w.alloc (.cells #[.pointer (some ⟨p, 0, none⟩)] 26)) (.cells #[.int .i64 (e.kind : Int), strV e.name, strV e.to, .pointer (enQ e)] 82) w.heap.size (by simp)).trans (box_cell w (.pointer (some ⟨p, 0, none⟩)) 26)
  have hbox := heap_alloc_new (w.alloc (.cells #[.pointer (some ⟨p, 0, none⟩)] 26)) (.cells #[.int .i64 (e.kind : Int), strV e.name, strV e.to, .pointer (enQ e)] 82)
  rw [World.size_alloc] at hbox
  have hsx : sv.ownBlock ≠ some (w.heap.size + 1) := fun h => by have := (hM.since.lt _ h).2; omega
  have hch := enter_change hG hM2 hm hF hbox hbox0 hsx
  clear hM hM1 hM2 hbox hbox0 hsx hG
  obtain ⟨kd, nm, to, mk⟩ := e
  simp only at hch ⊢
  generalize enQ ⟨kd, nm, to, mk⟩ = q at hch ⊢
  unfold strV at hch ⊢
  go_enter Try.func46, Try.ntmps46
  go_wp2_with (go_at_call 41; refine hch.mono ?_; rintro e w' hQ; have HQ := Lib.hid hQ; obtain ⟨rfl, _, _⟩ := hQ)
  go_ret
  exact HQ.out.later (((Below.refl _ _).alloc hbase _).alloc (by simp; omega) _)

set_option maxHeartbeats 1000000 in
theorem remove_any (h : Holds w base p S m) (hm : m ≤ 1073741824) (nm : Str) (hn : nm.length ≤ maxLen) :
    Calls Try.prog 30 #[.pointer (some ⟨p, 0, none⟩), strV nm] w (StepP w base p (S.remove nm) (m + 1)) := by
  have hbp := h.lt
  have H := Lib.hid h
  obtain ⟨hG, fb, lb, sv, rv, hM⟩ := h
  by_cases hf : S.find nm true = 0
  · obtain ⟨_, hmay, k, hl⟩ := find_zero hf
    have hfind := find_ok hG hM nm hn k hmay hl
    have hF : Fits S ⟨5, nm, [], 0⟩ := ⟨mayB_le hmay, by simp, .inr (.inr rfl), fun h => by simp at h, fun h => by simp at h⟩
    have hen := enter_any hG hM hm hF
    have hS : Hid (S.remove nm = S.enter ⟨5, nm, [], 0⟩) := Lib.hid (by unfold DS.remove; rw [if_neg (fun h => h hf)])
    rw [show enQ ⟨5, nm, [], 0⟩ = none from rfl] at hen
    clear hM hG hf hl hmay hF
    unfold strV at hfind hen ⊢
    go_enter Try.func30, Try.ntmps30
    go_wp2_with (first
      | (go_at_call 40; refine hfind.mono ?_; rintro e w' ⟨rfl, rfl⟩)
      | (go_at_call 46; refine hen.mono ?_; rintro e w' hQ; have HQ := Lib.hid hQ; obtain ⟨rfl, _, _⟩ := hQ))
    go_ret
    rw [hS.out]
    exact HQ.out
  · have hfind := find_no hG hM nm hn true hf
    have hS : Hid (S.remove nm = (S.find nm true, S)) := Lib.hid (by unfold DS.remove; rw [if_pos hf])
    obtain ⟨x, hx⟩ : ∃ x, x = S.find nm true := ⟨_, rfl⟩
    rw [← hx] at hfind hS hf
    have q : (x != 0) = true := by simpa using hf
    clear hM hG hf hx
    go_enter Try.func30, Try.ntmps30
    go_wp2_with (go_at_call 40; refine hfind.mono ?_; rintro e w' ⟨rfl, rfl⟩)
    go_ret
    rw [hS.out]
    exact StepP.no H.out (Below.refl _ _) (World.grownBy.refl _ _) rfl

set_option maxHeartbeats 1000000 in
theorem rename_any (h : Holds w base p S m) (hm : m ≤ 1073741824) (nm to : Str) (hn : nm.length ≤ maxLen) (ht : to.length ≤ maxLen) :
    Calls Try.prog 22 #[.pointer (some ⟨p, 0, none⟩), strV nm, strV to] w (StepP w base p (S.rename nm to) (m + 1)) := by
  have hbp := h.lt
  have H := Lib.hid h
  have hmayc := may_any to w ht
  obtain ⟨hG, fb, lb, sv, rv, hM⟩ := h
  by_cases hf : S.find nm (mayB to) = 0
  · obtain ⟨hmt, hmay, k, hl⟩ := find_zero hf
    have hfind := find_ok hG hM nm hn k hmay hl
    have hF : Fits S ⟨4, nm, to, 0⟩ := ⟨mayB_le hmay, mayB_le hmt, .inr (.inl rfl), fun h => by simp at h, fun _ => ⟨k, hl⟩⟩
    have hen := enter_any hG hM hm hF
    have hS : Hid (S.rename nm to = S.enter ⟨4, nm, to, 0⟩) := Lib.hid (by unfold DS.rename; rw [if_neg (fun h => h hf)])
    rw [show enQ ⟨4, nm, to, 0⟩ = none from rfl] at hen
    rw [hmt] at hmayc
    clear hM hG hf hl hmay hmt hF
    unfold strV at hfind hen hmayc ⊢
    go_enter Try.func22, Try.ntmps22
    go_wp2_with (first
      | (go_at_call 47; refine hmayc.mono ?_; rintro e w' ⟨rfl, rfl⟩)
      | (go_at_call 40; refine hfind.mono ?_; rintro e w' ⟨rfl, rfl⟩)
      | (go_at_call 46; refine hen.mono ?_; rintro e w' hQ; have HQ := Lib.hid hQ; obtain ⟨rfl, _, _⟩ := hQ))
    go_ret
    rw [hS.out]
    exact HQ.out
  · have hfind := find_no hG hM nm hn (mayB to) hf
    have hS : Hid (S.rename nm to = (S.find nm (mayB to), S)) := Lib.hid (by unfold DS.rename; rw [if_pos hf])
    obtain ⟨x, hx⟩ : ∃ x, x = S.find nm (mayB to) := ⟨_, rfl⟩
    rw [← hx] at hfind hS hf
    have q : (x != 0) = true := by simpa using hf
    obtain ⟨b, hb⟩ : ∃ b, b = mayB to := ⟨_, rfl⟩
    rw [← hb] at hfind hmayc
    clear hM hG hf hx hb
    unfold strV at hfind hmayc ⊢
    go_enter Try.func22, Try.ntmps22
    go_wp2_with (first
      | (go_at_call 47; refine hmayc.mono ?_; rintro e w' ⟨rfl, rfl⟩)
      | (go_at_call 40; refine hfind.mono ?_; rintro e w' ⟨rfl, rfl⟩))
    go_ret
    rw [hS.out]
    exact StepP.no H.out (Below.refl _ _) (World.grownBy.refl _ _) rfl
end
end Go.Proofs.Ytcemfpbkaahcmaa
