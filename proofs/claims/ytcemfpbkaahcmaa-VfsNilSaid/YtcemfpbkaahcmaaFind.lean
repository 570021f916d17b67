/- Contract: the file of a name. -/
import Derived.Test.YtcemfpbkaahcmaaMay
import Derived.WalkSpells
namespace Go.Proofs.Ytcemfpbkaahcmaa
open Go.RowKit
set_option linter.unusedVariables false

/-- A look in a directory. -/
theorem dir_look {w : World} {b n : Nat} {d : Dir} (h : DirAt w b n d) (s : Str) (hs : s.length ≤ maxLen) :
    (Instr.lookup 49 (.map (some b)) (.string ⟨s.toArray⟩) false).run Try.prog w = .ok (ptrOf (d.look s)) w := by
  obtain ⟨v, ps, hrun, hv⟩ := World.ownsMap.lookup h law9 Try.underlying49 (Try.zeroValue68 w) ptrR_nil (key9 s hs)
  rw [ptrR_look hv] at hrun
  exact hrun

section
variable {w : World} {base p : Nat} {S : DS} {m fb lb : Nat} {sv : Value} {rv : Nat → Value}
set_option maxHeartbeats 400000 in
theorem find_ok (hG : Good S m) (hM : Mem w base p S fb lb sv rv m) (nm : Str) (hn : nm.length ≤ maxLen) (k : Nat) (hm : mayB nm = true) (hk : S.D.look nm = some k) :
    Calls Try.prog 40 #[.pointer (some ⟨p, 0, none⟩), strV nm, .bool true] w fun e w' => e = .returned (.tuple #[.pointer (some ⟨k, 0, none⟩), .int .i64 0]) ∧ w = w' := by
  have hnone := none_disk hG hM
  have hmay := may_any nm w hn
  rw [hm] at hmay
  have hlook := dir_look hM.files nm hn
  rw [hk] at hlook
  simp only [ptrOf] at hlook
  obtain ⟨c0, c1, _⟩ := disk_cells hM.blk
  clear hM hG hk
  unfold strV at hmay ⊢
  go_enter Try.func40, Try.ntmps40
  go_wp2_with (first
    | (go_at_call 33; refine hnone.mono ?_; rintro e w' ⟨rfl, rfl⟩)
    | (go_at_call 47; refine hmay.mono ?_; rintro e w' ⟨rfl, rfl⟩))
  go_ret2
  exact ⟨rfl, rfl⟩
set_option maxHeartbeats 400000 in
theorem find_no (hG : Good S m) (hM : Mem w base p S fb lb sv rv m) (nm : Str) (hn : nm.length ≤ maxLen) (may : Bool) (hk : S.find nm may ≠ 0) :
    Calls Try.prog 40 #[.pointer (some ⟨p, 0, none⟩), strV nm, .bool may] w fun e w' => e = .returned (.tuple #[.pointer none, .int .i64 (S.find nm may)]) ∧ w = w' := by
  have hnone := none_disk hG hM
  have hmay := may_any nm w hn
  have hlook := dir_look hM.files nm hn
  obtain ⟨c0, c1, _⟩ := disk_cells hM.blk
  clear hM hG
  by_cases hm : may = true ∧ mayB nm = true
  · obtain ⟨rfl, hm⟩ := hm
    have hl : S.D.look nm = none := by
      cases e : S.D.look nm with
      | none => rfl
      | some k => unfold DS.find at hk; simp [hm, e] at hk
    have hf : S.find nm true = 6 := by unfold DS.find; simp [hm, hl]
    rw [hf]
    rw [hm] at hmay
    rw [hl] at hlook
    simp only [ptrOf] at hlook
    clear hk hf hl hm
    unfold strV at hmay ⊢
    go_enter Try.func40, Try.ntmps40
    go_wp2_with (first
      | (go_at_call 33; refine hnone.mono ?_; rintro e w' ⟨rfl, rfl⟩)
      | (go_at_call 47; refine hmay.mono ?_; rintro e w' ⟨rfl, rfl⟩))
    go_ret2
    exact ⟨rfl, rfl⟩
  · have hf : S.find nm may = 2 := by
      unfold DS.find
      rw [if_pos]
      cases may <;> cases h : mayB nm <;> simp_all
    rw [hf]
    clear hk hf hlook
    unfold strV at hmay ⊢
    cases may
    · clear hmay hm
      go_enter Try.func40, Try.ntmps40
      go_wp2_with (go_at_call 33; refine hnone.mono ?_; rintro e w' ⟨rfl, rfl⟩)
      go_ret2
      exact ⟨rfl, rfl⟩
    · have hb : mayB nm = false := by simpa using hm
      rw [hb] at hmay
      clear hb hm
      go_enter Try.func40, Try.ntmps40
      go_wp2_with (first
        | (go_at_call 33; refine hnone.mono ?_; rintro e w' ⟨rfl, rfl⟩)
        | (go_at_call 47; refine hmay.mono ?_; rintro e w' ⟨rfl, rfl⟩))
      go_ret2
      exact ⟨rfl, rfl⟩
end
/-- Of no disk. -/
theorem find_nil (nm : Str) (may : Bool) (w : World) (v : Value) (hnone : Calls Try.prog 33 #[v] w fun e w' => e = .returned (.bool true) ∧ w = w') :
    Calls Try.prog 40 #[v, strV nm, .bool may] w fun e w' => e = .returned (.tuple #[.pointer none, .int .i64 1]) ∧ w = w' := by
  unfold strV
  go_enter Try.func40, Try.ntmps40
  go_wp2_with (go_at_call 33; refine hnone.mono ?_; rintro e w' ⟨rfl, rfl⟩)
  go_ret2
  exact ⟨rfl, rfl⟩
end Go.Proofs.Ytcemfpbkaahcmaa
