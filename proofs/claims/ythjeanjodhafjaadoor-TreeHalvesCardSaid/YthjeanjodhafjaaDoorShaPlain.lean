/- Plain: the hash, on numbers and lists. -/
import Derived.Laws.BitsAllLaws
namespace Go.Proofs.YthjeanjodhafjaaDoor
set_option linter.unusedVariables false

/-- Words of 32 bits. -/
def xo (a b : Nat) : Nat := (a % 4294967296) ^^^ (b % 4294967296)
def an (a b : Nat) : Nat := (a % 4294967296) &&& (b % 4294967296)
def ad (a b : Nat) : Nat := (a + b) % 4294967296
def rotr (x n : Nat) : Nat := x / 2 ^ n + x * 2 ^ (32 - n) % 4294967296
theorem xo_lt (a b : Nat) : xo a b < 4294967296 := Nat.xor_lt_two_pow (n := 32) (Nat.mod_lt _ (by omega)) (Nat.mod_lt _ (by omega))
theorem an_lt (a b : Nat) : an a b < 4294967296 := Nat.and_lt_two_pow (n := 32) _ (Nat.mod_lt _ (by omega))
theorem ad_lt (a b : Nat) : ad a b < 4294967296 := Nat.mod_lt _ (by omega)
theorem zero_xo (a : Nat) (h : a < 4294967296) : xo 0 a = a := by
  unfold xo
  rw [Nat.zero_mod, Nat.zero_xor, Nat.mod_eq_of_lt h]
theorem rot_low {x n : Nat} (hn : n ≤ 32) : x * 2 ^ (32 - n) % 4294967296 = 2 ^ (32 - n) * (x % 2 ^ n) := by
  have e : (4294967296 : Nat) = 2 ^ (32 - n) * 2 ^ n := by rw [← Nat.pow_add, show 32 - n + n = 32 by omega]
  rw [e, Nat.mul_comm x, Nat.mul_mod_mul_left]
theorem rotr_or {x n : Nat} (h : x < 4294967296) (hn : n ≤ 32) : x * 2 ^ (32 - n) % 4294967296 ||| x / 2 ^ n = rotr x n := by
  have e : (4294967296 : Nat) = 2 ^ (32 - n) * 2 ^ n := by rw [← Nat.pow_add, show 32 - n + n = 32 by omega]
  have hy : x / 2 ^ n < 2 ^ (32 - n) := by
    rw [Nat.div_lt_iff_lt_mul (Nat.two_pow_pos n), ← e]
    exact h
  have hx : x * 2 ^ (32 - n) % 4294967296 % 2 ^ (32 - n) = 0 := by
    rw [rot_low hn]
    exact Nat.mul_mod_right _ _
  rw [nat_join (32 - n) _ _ hx hy, Nat.add_comm]
  rfl
theorem rotr_lt {x n : Nat} (h : x < 4294967296) (hn : n ≤ 32) : rotr x n < 4294967296 := by
  have e : (4294967296 : Nat) = 2 ^ (32 - n) * 2 ^ n := by rw [← Nat.pow_add, show 32 - n + n = 32 by omega]
  rw [← rotr_or h hn]
  refine Nat.or_lt_two_pow (n := 32) (Nat.mod_lt _ (by omega)) ?_
  exact Nat.lt_of_le_of_lt (Nat.div_le_self _ _) h

/-- Turned by each of these, all together. -/
def turnsTo (x : Nat) : List Nat → Nat → Nat
  | [], a => a
  | n :: r, a => turnsTo x r (xo a (rotr x n))
def turns (x : Nat) (l : List Nat) : Nat := turnsTo x l 0
theorem turnsTo_lt (x : Nat) (l : List Nat) : ∀ a, a < 4294967296 → turnsTo x l a < 4294967296 := by
  induction l with
  | nil => intro a h; exact h
  | cons n r ih => intro a h; exact ih _ (xo_lt _ _)
theorem turns_lt (x : Nat) (l : List Nat) : turns x l < 4294967296 := turnsTo_lt x l 0 (by omega)
theorem turnsTo_append (x : Nat) (l m : List Nat) : ∀ a, turnsTo x (l ++ m) a = turnsTo x m (turnsTo x l a) := by
  induction l with
  | nil => intro a; rfl
  | cons n r ih => intro a; exact ih _
theorem turns_take (x : Nat) (l : List Nat) (k : Nat) (h : k < l.length) : turns x (l.take (k + 1)) = xo (turns x (l.take k)) (rotr x l[k]) := by
  unfold turns
  rw [List.take_succ_eq_append_getElem h, turnsTo_append]
  rfl
theorem turns2 (x m n : Nat) (h : rotr x m < 4294967296) : turns x [m, n] = xo (rotr x m) (rotr x n) := by
  show xo (xo 0 (rotr x m)) (rotr x n) = _
  rw [zero_xo _ h]
theorem turns3 (x m n k : Nat) (h : rotr x m < 4294967296) : turns x [m, n, k] = xo (xo (rotr x m) (rotr x n)) (rotr x k) := by
  show xo (xo (xo 0 (rotr x m)) (rotr x n)) (rotr x k) = _
  rw [zero_xo _ h]

/-- The next word of a row that stands the last one first. -/
def nxt (r : List Nat) : Nat := ad (ad (ad (xo (turns (r.getD 1 0) [17, 19]) (r.getD 1 0 / 1024)) (r.getD 6 0)) (xo (turns (r.getD 14 0) [7, 18]) (r.getD 14 0 / 8))) (r.getD 15 0)
def sched (b : List Nat) : Nat → List Nat
  | 0 => b.reverse
  | k + 1 => nxt (sched b k) :: sched b k
def wl (b : List Nat) (k : Nat) : List Nat := (sched b k).reverse
theorem sched_length (b : List Nat) (k : Nat) : (sched b k).length = b.length + k := by
  induction k with
  | zero => simp [sched]
  | succ k ih => simp [sched, ih]; omega
theorem wl_length (b : List Nat) (k : Nat) : (wl b k).length = b.length + k := by simp [wl, sched_length]
theorem wl_zero (b : List Nat) : wl b 0 = b := by simp [wl, sched]
theorem wl_succ (b : List Nat) (k : Nat) : wl b (k + 1) = wl b k ++ [nxt (sched b k)] := by simp [wl, sched]
theorem getD_rev {l : List Nat} {i : Nat} (h : i < l.length) : l.getD i 0 = l.reverse.getD (l.length - 1 - i) 0 := by
  rw [List.getD_eq_getElem?_getD, List.getD_eq_getElem?_getD, List.getElem?_reverse (by omega), show l.length - 1 - (l.length - 1 - i) = i by omega]
/-- The word of a number. -/
def wAt (b : List Nat) (k j : Nat) : Nat := (wl b k).getD j 0
theorem wAt_next (b : List Nat) (k : Nat) (hb : b.length = 16) : wAt b (k + 1) (16 + k) = ad (ad (ad (xo (turns (wAt b k (14 + k)) [17, 19]) (wAt b k (14 + k) / 1024)) (wAt b k (9 + k))) (xo (turns (wAt b k (1 + k)) [7, 18]) (wAt b k (1 + k) / 8))) (wAt b k k) := by
  have hl := sched_length b k
  have e : ∀ i, i < 16 → (sched b k).getD i 0 = wAt b k (15 + k - i) := fun i hi => by
    rw [getD_rev (by omega)]
    unfold wAt wl
    congr 1
    omega
  have h1 : wAt b (k + 1) (16 + k) = nxt (sched b k) := by
    unfold wAt
    rw [wl_succ, List.getD_eq_getElem?_getD, List.getElem?_append_right (by rw [wl_length]; omega), wl_length, show 16 + k - (b.length + k) = 0 by omega, List.getElem?_cons_zero, Option.getD_some]
  rw [h1]
  unfold nxt
  rw [e 1 (by omega), e 6 (by omega), e 14 (by omega), e 15 (by omega), show 15 + k - 1 = 14 + k by omega, show 15 + k - 6 = 9 + k by omega, show 15 + k - 14 = 1 + k by omega, show 15 + k - 15 = k by omega]
theorem wAt_old (b : List Nat) (k j : Nat) (h : j < b.length + k) : wAt b (k + 1) j = wAt b k j := by
  unfold wAt
  rw [wl_succ, List.getD_eq_getElem?_getD, List.getElem?_append_left (by rw [wl_length]; omega), List.getD_eq_getElem?_getD]
theorem wAt_up (b : List Nat) (k j d : Nat) (h : j < b.length + k) : wAt b (k + d) j = wAt b k j := by
  induction d with
  | zero => rfl
  | succ d ih => rw [← Nat.add_assoc, wAt_old b (k + d) j (by omega), ih]
theorem wAt_lt (b : List Nat) (hb : b.length = 16) (h : ∀ j, b.getD j 0 < 4294967296) (k j : Nat) : wAt b k j < 4294967296 := by
  induction k with
  | zero => unfold wAt; rw [wl_zero]; exact h j
  | succ k ih =>
    by_cases hj : j < b.length + k
    · rw [wAt_old b k j hj]; exact ih
    · by_cases e : j = 16 + k
      · subst e; rw [wAt_next b k hb]; exact ad_lt _ _
      · unfold wAt
        rw [List.getD_eq_getElem?_getD, List.getElem?_eq_none (by rw [wl_length]; omega)]
        exact Nat.zero_lt_succ _

/-- All words of a block. -/
def wF (b : List Nat) (j : Nat) : Nat := wAt b 48 j
theorem wF_lt (b : List Nat) (hb : b.length = 16) (h : ∀ j, b.getD j 0 < 4294967296) (j : Nat) : wF b j < 4294967296 := wAt_lt b hb h 48 j
theorem wF_old (b : List Nat) (hb : b.length = 16) (j : Nat) (h : j < 16) : wF b j = b.getD j 0 := by
  have := wAt_up b 0 j 48 (by omega)
  rw [Nat.zero_add] at this
  unfold wF
  rw [this]
  unfold wAt
  rw [wl_zero]
theorem wF_next (b : List Nat) (hb : b.length = 16) (t : Nat) (h1 : 16 ≤ t) (h2 : t < 64) : wF b t = ad (ad (ad (xo (turns (wF b (t - 2)) [17, 19]) (wF b (t - 2) / 1024)) (wF b (t - 7))) (xo (turns (wF b (t - 15)) [7, 18]) (wF b (t - 15) / 8))) (wF b (t - 16)) := by
  obtain ⟨k, rfl⟩ : ∃ k, t = 16 + k := ⟨t - 16, by omega⟩
  have e : ∀ j, j < 16 + k → wF b j = wAt b k j := fun j hj => by
    have := wAt_up b k j (48 - k) (by omega)
    rw [show k + (48 - k) = 48 by omega] at this
    exact this
  have e1 : wF b (16 + k) = wAt b (k + 1) (16 + k) := by
    have := wAt_up b (k + 1) (16 + k) (47 - k) (by omega)
    rw [show k + 1 + (47 - k) = 48 by omega] at this
    exact this
  rw [e1, wAt_next b k hb, show 16 + k - 2 = 14 + k by omega, show 16 + k - 7 = 9 + k by omega, show 16 + k - 15 = 1 + k by omega, show 16 + k - 16 = k by omega, e (14 + k) (by omega), e (9 + k) (by omega), e (1 + k) (by omega), e k (by omega)]

/-- The eight. -/
structure St where
  a : Nat
  b : Nat
  c : Nat
  d : Nat
  e : Nat
  f : Nat
  g : Nat
  h : Nat
def St.ok (s : St) : Prop := s.a < 4294967296 ∧ s.b < 4294967296 ∧ s.c < 4294967296 ∧ s.d < 4294967296 ∧ s.e < 4294967296 ∧ s.f < 4294967296 ∧ s.g < 4294967296 ∧ s.h < 4294967296
def St.at (s : St) : Nat → Nat
  | 0 => s.a
  | 1 => s.b
  | 2 => s.c
  | 3 => s.d
  | 4 => s.e
  | 5 => s.f
  | 6 => s.g
  | _ => s.h
/-- The two sums of a round. -/
def sumA (s : St) (k w : Nat) : Nat := ad (ad (ad (ad s.h (turns s.e [6, 11, 25])) (xo (an s.e s.f) (an (xo 4294967295 s.e) s.g))) k) w
def sumB (s : St) : Nat := ad (turns s.a [2, 13, 22]) (xo (xo (an s.a s.b) (an s.a s.c)) (an s.b s.c))
def rnd (s : St) (k w : Nat) : St := ⟨ad (sumA s k w) (sumB s), s.a, s.b, s.c, ad s.d (sumA s k w), s.e, s.f, s.g⟩
theorem rnd_ok {s : St} (h : s.ok) (k w : Nat) : (rnd s k w).ok := ⟨ad_lt _ _, h.1, h.2.1, h.2.2.1, ad_lt _ _, h.2.2.2.2.1, h.2.2.2.2.2.1, h.2.2.2.2.2.2.1⟩

def kL : List Nat := [1116352408, 1899447441, 3049323471, 3921009573, 961987163, 1508970993, 2453635748, 2870763221, 3624381080, 310598401, 607225278, 1426881987, 1925078388, 2162078206, 2614888103, 3248222580, 3835390401, 4022224774, 264347078, 604807628, 770255983, 1249150122, 1555081692, 1996064986, 2554220882, 2821834349, 2952996808, 3210313671, 3336571891, 3584528711, 113926993, 338241895, 666307205, 773529912, 1294757372, 1396182291, 1695183700, 1986661051, 2177026350, 2456956037, 2730485921, 2820302411, 3259730800, 3345764771, 3516065817, 3600352804, 4094571909, 275423344, 430227734, 506948616, 659060556, 883997877, 958139571, 1322822218, 1537002063, 1747873779, 1955562222, 2024104815, 2227730452, 2361852424, 2428436474, 2756734187, 3204031479, 3329325298]
def hL : List Nat := [1779033703, 3144134277, 1013904242, 2773480762, 1359893119, 2600822924, 528734635, 1541459225]
def kN (t : Nat) : Nat := kL.getD t 0
def hN (t : Nat) : Nat := hL.getD t 0
theorem kN_lt (t : Nat) : kN t < 4294967296 := by
  by_cases h : t < 64
  · have : (List.range 64).all (fun t => decide (kN t < 4294967296)) = true := by decide +kernel
    simpa using List.all_eq_true.1 this t (List.mem_range.2 h)
  · unfold kN
    rw [List.getD_eq_getElem?_getD, List.getElem?_eq_none (by show 64 ≤ t; omega)]
    exact Nat.zero_lt_succ _
theorem hN_lt (t : Nat) : hN t < 4294967296 := by
  by_cases h : t < 8
  · have : (List.range 8).all (fun t => decide (hN t < 4294967296)) = true := by decide +kernel
    simpa using List.all_eq_true.1 this t (List.mem_range.2 h)
  · unfold hN
    rw [List.getD_eq_getElem?_getD, List.getElem?_eq_none (by show 8 ≤ t; omega)]
    exact Nat.zero_lt_succ _
def rnds (s : St) (b : List Nat) : Nat → St
  | 0 => s
  | t + 1 => rnd (rnds s b t) (kN t) (b.getD t 0)
theorem rnds_ok {s : St} (h : s.ok) (b : List Nat) (t : Nat) : (rnds s b t).ok := by
  induction t with
  | zero => exact h
  | succ t ih => exact rnd_ok ih _ _
def St.plus (s r : St) : St := ⟨ad s.a r.a, ad s.b r.b, ad s.c r.c, ad s.d r.d, ad s.e r.e, ad s.f r.f, ad s.g r.g, ad s.h r.h⟩
theorem plus_ok (s r : St) : (s.plus r).ok := ⟨ad_lt _ _, ad_lt _ _, ad_lt _ _, ad_lt _ _, ad_lt _ _, ad_lt _ _, ad_lt _ _, ad_lt _ _⟩
/-- The eight behind a block of these words. -/
def mixS (s : St) (b : List Nat) : St := s.plus (rnds s (wl b 48) 64)
theorem mixS_ok (s : St) (b : List Nat) : (mixS s b).ok := plus_ok _ _

/-- The words of a block of bytes. -/
def wd (l : List UInt8) (i : Nat) : Nat := (((l.getD (4 * i) 0).toNat * 256 + (l.getD (4 * i + 1) 0).toNat) * 256 + (l.getD (4 * i + 2) 0).toNat) * 256 + (l.getD (4 * i + 3) 0).toNat
theorem wd_lt (l : List UInt8) (i : Nat) : wd l i < 4294967296 := by
  unfold wd
  have h0 := (l.getD (4 * i) 0).toNat_lt
  have h1 := (l.getD (4 * i + 1) 0).toNat_lt
  have h2 := (l.getD (4 * i + 2) 0).toNat_lt
  have h3 := (l.getD (4 * i + 3) 0).toNat_lt
  omega
def wdsL (l : List UInt8) : List Nat := (List.range 16).map (wd l)
theorem wdsL_length (l : List UInt8) : (wdsL l).length = 16 := by simp [wdsL]
theorem wdsL_at (l : List UInt8) (i : Nat) (h : i < 16) : (wdsL l).getD i 0 = wd l i := by
  unfold wdsL
  rw [List.getD_eq_getElem?_getD, List.getElem?_map, List.getElem?_range h]
  rfl
theorem wdsL_lt (l : List UInt8) (i : Nat) : (wdsL l).getD i 0 < 4294967296 := by
  by_cases h : i < 16
  · rw [wdsL_at l i h]; exact wd_lt _ _
  · rw [List.getD_eq_getElem?_getD, List.getElem?_eq_none (by rw [wdsL_length]; omega)]
    exact Nat.zero_lt_succ _

/-- So many blocks go into the eight. -/
def goB : Nat → St → List UInt8 → St
  | 0, s, _ => s
  | n + 1, s, l => goB n (mixS s (wdsL (l.take 64))) (l.drop 64)
theorem goB_snoc (n : Nat) : ∀ (s : St) (l : List UInt8), goB (n + 1) s l = mixS (goB n s l) (wdsL ((l.drop (64 * n)).take 64)) := by
  induction n with
  | zero => intro s l; rfl
  | succ n ih =>
    intro s l
    rw [goB, ih, goB, List.drop_drop, show 64 + 64 * n = 64 * (n + 1) by omega]
theorem goB_append (n : Nat) : ∀ (s : St) (l m : List UInt8), 64 * n ≤ l.length → goB n s (l ++ m) = goB n s l := by
  induction n with
  | zero => intro s l m _; rfl
  | succ n ih =>
    intro s l m h
    rw [goB, goB, List.take_append_of_le_length (by omega), List.drop_append_of_le_length (by omega), ih _ _ _ (by rw [List.length_drop]; omega)]
theorem goB_ok (n : Nat) : ∀ (s : St) (l : List UInt8), s.ok → (goB n s l).ok := by
  induction n with
  | zero => intro s l h; exact h
  | succ n ih => intro s l _; exact ih _ _ (mixS_ok _ _)
def s0 : St := ⟨hN 0, hN 1, hN 2, hN 3, hN 4, hN 5, hN 6, hN 7⟩
theorem s0_ok : s0.ok := ⟨hN_lt 0, hN_lt 1, hN_lt 2, hN_lt 3, hN_lt 4, hN_lt 5, hN_lt 6, hN_lt 7⟩
/-- The eight behind these bytes' whole blocks. -/
def stL (l : List UInt8) : St := goB (l.length / 64) s0 l
theorem stL_ok (l : List UInt8) : (stL l).ok := goB_ok _ _ _ s0_ok

/-- A byte of a number, counted from its end. -/
def byteAt (n k : Nat) : UInt8 := UInt8.ofNat (n / 256 ^ k % 256)
def be8 (n : Nat) : List UInt8 := [byteAt n 7, byteAt n 6, byteAt n 5, byteAt n 4, byteAt n 3, byteAt n 2, byteAt n 1, byteAt n 0]
def be4 (n : Nat) : List UInt8 := [byteAt n 3, byteAt n 2, byteAt n 1, byteAt n 0]
/-- What follows a message of so many bytes. -/
def tailL (n : Nat) : List UInt8 := 128 :: (List.replicate (63 - (n + 8) % 64) 0 ++ be8 (8 * n))
theorem tailL_length (n : Nat) : (tailL n).length = 72 - (n + 8) % 64 := by
  have : (n + 8) % 64 < 64 := Nat.mod_lt _ (by omega)
  simp [tailL, be8]
  omega
def outS (s : St) : List UInt8 := be4 s.a ++ be4 s.b ++ be4 s.c ++ be4 s.d ++ be4 s.e ++ be4 s.f ++ be4 s.g ++ be4 s.h
theorem outS_length (s : St) : (outS s).length = 32 := rfl
/-- The hash. -/
def shaL (l : List UInt8) : List UInt8 := outS (stL (l ++ tailL l.length))
theorem shaL_length (l : List UInt8) : (shaL l).length = 32 := rfl

end Go.Proofs.YthjeanjodhafjaaDoor
