/- Plain mathematics of layer 8: the order of keys. No Go here. -/
import Derived.Test.YtjlddackpckmfaaKeysM
namespace Go.Proofs.Ytjlddackpckmfaa.M
set_option linter.unusedVariables false
open Op (bytesLess)

theorem u8_lt {a b : UInt8} : a < b ↔ a.toNat < b.toNat := UInt8.lt_iff_toNat_lt
theorem less_same : ∀ (p x y : List UInt8), bytesLess (p ++ x) (p ++ y) = bytesLess x y
  | [], x, y => rfl
  | c :: p, x, y => by
    rw [List.cons_append, List.cons_append, bytesLess, less_same p x y]
    simp
theorem less_irrefl (x : List UInt8) : bytesLess x x = false := by
  have := less_same x [] []
  simpa [bytesLess] using this
theorem less_flip : ∀ (x y : List UInt8), x ≠ y → bytesLess y x = !bytesLess x y
  | [], [], h => absurd rfl h
  | [], b :: y, h => by simp [bytesLess]
  | a :: x, [], h => by simp [bytesLess]
  | a :: x, b :: y, h => by
    rw [bytesLess, bytesLess]
    by_cases e : a = b
    · subst e
      have := less_flip x y (fun e => h (by rw [e]))
      simp [this]
    · have hn : a.toNat ≠ b.toNat := fun e' => e (UInt8.toNat_inj.1 e')
      have e2 : ¬ b = a := fun e' => e e'.symm
      by_cases hl : a < b
      · have hl' := u8_lt.1 hl
        have : ¬ b < a := by rw [u8_lt]; omega
        simp [hl, this, e2]
      · have hl' : ¬ a.toNat < b.toNat := fun h' => hl (u8_lt.2 h')
        have : b < a := by rw [u8_lt]; omega
        simp [hl, this, e]
theorem less_len : ∀ (a b x y : List UInt8), a.length = b.length → bytesLess (a ++ x) (b ++ y) = (bytesLess a b || (a == b && bytesLess x y))
  | [], [], x, y, _ => by simp [bytesLess]
  | [], c :: b, x, y, h => by simp at h
  | c :: a, [], x, y, h => by simp at h
  | c :: a, d :: b, x, y, h => by
    have ih := less_len a b x y (by simpa using h)
    rw [List.cons_append, List.cons_append, bytesLess, ih, bytesLess]
    by_cases e : c = d
    · subst e; simp
    · have : (c == d) = false := by simpa using e
      have e3 : ((c :: a) == (d :: b)) = false := by simp [e]
      rw [this, e3]; simp
theorem less_zero : ∀ (a b x y : List UInt8), 0 ∉ a → 0 ∉ b → bytesLess (a ++ 0 :: x) (b ++ 0 :: y) = (bytesLess a b || (a == b && bytesLess x y))
  | [], [], x, y, _, _ => by simp [bytesLess]
  | [], c :: b, x, y, _, h => by
    have hc : ¬ c = 0 := fun e => h (by rw [e]; exact List.mem_cons_self)
    have : (0 : UInt8) < c := by
      rw [u8_lt]
      have : c.toNat ≠ 0 := fun e => hc (UInt8.toNat_inj.1 e)
      show 0 < c.toNat
      omega
    simp [bytesLess, this]
  | c :: a, [], x, y, h, _ => by
    have hc : ¬ c = 0 := fun e => h (by rw [e]; exact List.mem_cons_self)
    have : ¬ c < (0 : UInt8) := by rw [u8_lt]; exact Nat.not_lt_zero _
    simp [bytesLess, this, hc]
  | c :: a, d :: b, x, y, h, k => by
    have ih := less_zero a b x y (fun e => h (List.mem_cons_of_mem _ e)) (fun e => k (List.mem_cons_of_mem _ e))
    rw [List.cons_append, List.cons_append, bytesLess, ih, bytesLess]
    by_cases e : c = d
    · subst e; simp
    · have : (c == d) = false := by simpa using e
      have e3 : ((c :: a) == (d :: b)) = false := by simp [e]
      rw [this, e3]; simp

/-- Three ways. -/
def ordB (a b : List UInt8) : Int := if bytesLess a b then -1 else if bytesLess b a then 1 else 0
def numI (a b : Int) : Int := if a < b then -1 else if b < a then 1 else 0
def firstI : List Int → Int
  | [] => 0
  | x :: l => if x ≠ 0 then x else firstI l
theorem ordB_self (a : List UInt8) : ordB a a = 0 := by simp [ordB, less_irrefl]
theorem ordB_ne {a b : List UInt8} (h : a ≠ b) : ordB a b ≠ 0 := by
  have := less_flip a b h
  unfold ordB
  rw [this]
  cases bytesLess a b <;> simp
theorem ordB_glue {f g : List UInt8} {a b x y : List UInt8} (h1 : bytesLess f g = (bytesLess a b || (a == b && bytesLess x y))) (h2 : bytesLess g f = (bytesLess b a || (b == a && bytesLess y x))) : ordB f g = if ordB a b ≠ 0 then ordB a b else ordB x y := by
  by_cases e : a = b
  · subst e
    rw [ordB_self, if_neg (by simp)]
    unfold ordB
    rw [h1, h2]
    simp [less_irrefl]
  · have e' : ¬ b = a := fun h => e h.symm
    rw [if_pos (ordB_ne e)]
    unfold ordB
    rw [h1, h2]
    simp [e, e']
theorem ordB_same (p x y : List UInt8) : ordB (p ++ x) (p ++ y) = ordB x y := by simp only [ordB, less_same]
theorem ordB_len (a b x y : List UInt8) (h : a.length = b.length) : ordB (a ++ x) (b ++ y) = if ordB a b ≠ 0 then ordB a b else ordB x y :=
  ordB_glue (less_len a b x y h) (less_len b a y x h.symm)
theorem ordB_zero (a b x y : List UInt8) (h : 0 ∉ a) (k : 0 ∉ b) : ordB (a ++ 0 :: x) (b ++ 0 :: y) = if ordB a b ≠ 0 then ordB a b else ordB x y :=
  ordB_glue (less_zero a b x y h k) (less_zero b a y x k h)
theorem ordB_big (a b : Nat) (ha : a ≤ 9223372036854775807) (hb : b ≤ 9223372036854775807) : ordB (bigN a) (bigN b) = numI a b := by
  unfold ordB numI
  rw [less_big a b ha hb, less_big b a hb ha]
  simp only [decide_eq_true_eq, Int.ofNat_lt]
theorem ordB_bigs (a b : Nat) (x y : List UInt8) (ha : a ≤ 9223372036854775807) (hb : b ≤ 9223372036854775807) : ordB (bigN a ++ x) (bigN b ++ y) = if numI a b ≠ 0 then numI a b else ordB x y := by
  rw [ordB_len _ _ _ _ (by rw [bigN_length, bigN_length]), ordB_big a b ha hb]
theorem order_span (t i t' i' : Nat) (h1 : t ≤ 9223372036854775807) (h2 : i ≤ 9223372036854775807) (h3 : t' ≤ 9223372036854775807) (h4 : i' ≤ 9223372036854775807) : ordB (spanK t i) (spanK t' i') = firstI [numI t t', numI i i'] := by
  have := ordB_same [115] (bigN t ++ bigN i) (bigN t' ++ bigN i')
  unfold spanK
  rw [List.singleton_append, List.singleton_append] at this
  rw [this, ordB_bigs t t' _ _ h1 h3, ordB_big i i' h2 h4]
  simp only [firstI]
  split
  · rfl
  · split
    · rfl
    · rename_i h; simpa using h
theorem order_index (a b a' b' : List UInt8) (st t i st' t' i' : Nat) (ha : 0 ∉ a) (hb : 0 ∉ b) (ha' : 0 ∉ a') (hb' : 0 ∉ b') (g1 : st ≤ 9223372036854775807) (g2 : st' ≤ 9223372036854775807) (h1 : t ≤ 9223372036854775807) (h2 : i ≤ 9223372036854775807) (h3 : t' ≤ 9223372036854775807) (h4 : i' ≤ 9223372036854775807) :
    ordB (indexK a b st t i) (indexK a' b' st' t' i') = firstI [ordB a a', ordB b b', numI st st', numI t t', numI i i'] := by
  have e1 : indexK a b st t i = [120] ++ (a ++ 0 :: (b ++ 0 :: (bigN st ++ (bigN t ++ bigN i)))) := by simp [indexK, aheadK]
  have e2 : indexK a' b' st' t' i' = [120] ++ (a' ++ 0 :: (b' ++ 0 :: (bigN st' ++ (bigN t' ++ bigN i')))) := by simp [indexK, aheadK]
  rw [e1, e2, ordB_same, ordB_zero _ _ _ _ ha ha', ordB_zero _ _ _ _ hb hb', ordB_bigs st st' _ _ g1 g2, ordB_bigs t t' _ _ h1 h3, ordB_big i i' h2 h4]
  simp only [firstI]
  split
  · rfl
  · split
    · rfl
    · split
      · rfl
      · split
        · rfl
        · split
          · rfl
          · rename_i h; simpa using h
theorem span_index (t i : Nat) (a b : List UInt8) (st t' i' : Nat) : bytesLess (spanK t i) (indexK a b st t' i') = true := by
  simp [spanK, indexK, aheadK, bytesLess]

/-- In a trace's stretch. -/
theorem within_span (t i : Nat) (x : Int) (ht : idB t = true) (hi : idB i = true) : (!bytesLess (spanK t i) (fromK x) && bytesLess (spanK t i) (toK x)) = (x == (t : Int)) := by
  have h1 := idB_true.1 ht
  cases hx : idB x with
  | false =>
    have hne : ¬ x = (t : Int) := fun e => by rw [e, ht] at hx; exact absurd hx (by simp)
    have : (x == (t : Int)) = false := by simpa using hne
    rw [this, toK, hx]
    simp [bytesLess]
  | true =>
    have h2 := idB_true.1 hx
    obtain ⟨n, rfl⟩ := Int.eq_ofNat_of_zero_le (show 0 ≤ x by omega)
    have p1 : bytesLess (spanK t i) (fromK (n : Int)) = decide (t < n) := by
      rw [fromK, if_pos hx, spanK, traceK, bytesLess]
      have := less_len (bigN t) (bigN n) (bigN i) [] (by rw [bigN_length, bigN_length])
      rw [List.append_nil] at this
      simp only [Int.toNat_natCast]
      rw [this, less_big t n (by omega) (by omega)]
      simp [bytesLess]
    have p2 : bytesLess (spanK t i) (toK (n : Int)) = decide (t < n + 1) := by
      rw [toK, if_pos hx, spanK, traceK, bytesLess]
      have := less_len (bigN t) (bigN (n + 1)) (bigN i) [] (by rw [bigN_length, bigN_length])
      rw [List.append_nil] at this
      simp only [Int.toNat_natCast]
      rw [this, less_big t (n + 1) (by omega) (by omega)]
      simp [bytesLess]
    rw [p1, p2, Bool.eq_iff_iff]
    simp
    omega
theorem less_ahead (a b c d x y : List UInt8) (ha : 0 ∉ a) (hb : 0 ∉ b) (hc : 0 ∉ c) (hd : 0 ∉ d) : bytesLess (aheadK a b ++ x) (aheadK c d ++ y) = (bytesLess a c || (a == c && (bytesLess b d || (b == d && bytesLess x y)))) := by
  have e1 : aheadK a b ++ x = [120] ++ (a ++ 0 :: (b ++ 0 :: x)) := by simp [aheadK]
  have e2 : aheadK c d ++ y = [120] ++ (c ++ 0 :: (d ++ 0 :: y)) := by simp [aheadK]
  rw [e1, e2, less_same, less_zero _ _ _ _ ha hc, less_zero _ _ _ _ hb hd]
/-- In a stretch of a service's and a host's. -/
theorem within_index (a b c d : List UInt8) (ha : nameB a = true) (hb : nameB b = true) (hc : nameB c = true) (hd : nameB d = true) (st t i : Nat) (hs : st ≤ 1073741824) (f g : Int) :
    (!bytesLess (indexK a b st t i) (fromS c d f g) && bytesLess (indexK a b st t i) (toS c d f g)) = (decide (f ≤ (st : Int)) && decide ((st : Int) ≤ g) && (a == c) && (b == d)) := by
  cases ho : okSt c d f g with
  | false =>
    have hm : ¬ max f 0 ≤ min g 1073741824 := by
      simp only [okSt, hc, hd, Bool.true_and, decide_eq_false_iff_not] at ho
      exact ho
    rw [toS, ho, Bool.eq_iff_iff]
    simp [bytesLess]
    omega
  | true =>
    have hm : max f 0 ≤ min g 1073741824 := by
      simp only [okSt, hc, hd, Bool.true_and, decide_eq_true_eq] at ho
      exact ho
    have za := name_no0 ha
    have zb := name_no0 hb
    have zc := name_no0 hc
    have zd := name_no0 hd
    rw [fromS, toS, ho, if_pos rfl, if_pos rfl]
    unfold indexK
    have q : ∀ n : Nat, n ≤ 1073741825 → bytesLess (bigN st ++ (bigN t ++ bigN i)) (bigN n) = decide (st < n) := fun n hn => by
      have := less_len (bigN st) (bigN n) (bigN t ++ bigN i) [] (by rw [bigN_length, bigN_length])
      rw [List.append_nil] at this
      rw [this, less_big st n (by omega) (by omega)]
      simp [bytesLess]
    rw [less_ahead _ _ _ _ _ _ za zb zc zd, less_ahead _ _ _ _ _ _ za zb zc zd, q _ (by omega), q _ (by omega)]
    by_cases e1 : a = c
    · subst e1
      by_cases e2 : b = d
      · subst e2
        rw [Bool.eq_iff_iff]
        simp [less_irrefl]
        omega
      · have h2 : (b == d) = false := by simpa using e2
        rw [h2]
        simp [less_irrefl]
    · have h1 : (a == c) = false := by simpa using e1
      rw [h1]
      simp

end Go.Proofs.Ytjlddackpckmfaa.M
