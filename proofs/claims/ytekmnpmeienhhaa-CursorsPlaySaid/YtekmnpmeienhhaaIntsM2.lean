/- Plain mathematics of layer 1, continued: what was put is got, what was got was put, of what is cut off nothing is got, and the order. No Go here. -/
import Derived.Test.YtekmnpmeienhhaaIntsM
import Derived.Laws.Strings
namespace Go.Proofs.Ytekmnpmeienhhaa.M
set_option linter.unusedVariables false

theorem val_pre : ∀ (f n : Nat), n < 128 ^ f → val (pre f n) = n
  | 0, n, h => by
    have : n = 0 := by simpa using h
    subst this; rfl
  | f + 1, n, h => by
    by_cases h0 : n = 0
    · subst h0; rw [pre_zero]; rfl
    · rw [pre_step f n (by omega), val_snoc, val_pre f (n / 128) (by rw [Nat.pow_succ] at h; omega), u8_toNat _ (by omega)]
      omega
theorem pre_high : ∀ (f n : Nat), ∀ d ∈ pre f n, 128 ≤ d.toNat
  | 0, n => by simp [pre]
  | f + 1, n => by
    intro d hd
    by_cases h0 : n = 0
    · subst h0; simp [pre] at hd
    · rw [pre_step f n (by omega), List.mem_append] at hd
      rcases hd with hd | hd
      · exact pre_high f _ d hd
      · have e : d = u8 (n % 128 + 128) := by simpa using hd
        rw [e, u8_toNat _ (by omega)]; omega
theorem pre_len8 (n : Nat) (h : n ≤ 9223372036854775807) : (pre 9 (n / 128)).length ≤ 8 := by
  rw [pre_fuel 8 (n / 128) (by omega)]
  exact pre_length 8 _
theorem putN_len9 (n : Nat) (h : n ≤ 9223372036854775807) : (putN n).length ≤ 9 := by
  have := pre_len8 n h
  simp [putN]; omega
theorem ld_app : ∀ (hs : List UInt8) (d : UInt8) (r : List UInt8), (∀ x ∈ hs, 128 ≤ x.toNat) → d.toNat < 128 → ld (hs ++ d :: r) = hs.length
  | [], d, r, _, hd => by simp [ld]; omega
  | x :: hs, d, r, h, hd => by
    have := ld_app hs d r (fun y hy => h y (by simp [hy])) hd
    have hx := h x (by simp)
    simp [ld, this, hx]
theorem ld_all : ∀ (hs : List UInt8), (∀ x ∈ hs, 128 ≤ x.toNat) → ld hs = hs.length
  | [], _ => rfl
  | x :: hs, h => by
    have := ld_all hs (fun y hy => h y (by simp [hy]))
    have hx := h x (by simp)
    simp [ld, this, hx]
theorem val_putN (n : Nat) (h : n ≤ 9223372036854775807) : val (putN n) = n := by
  unfold putN
  rw [val_snoc, val_pre 9 _ (by omega), u8_toNat _ (by omega)]
  omega

/-- What was put is got. -/
theorem gets_put (a c : List UInt8) (n : Nat) (h : n ≤ 9223372036854775807) : gets (a ++ putN n ++ c) a.length = some (n, a.length + (putN n).length) := by
  have h8 := pre_len8 n h
  have hd : (a ++ putN n ++ c).drop a.length = putN n ++ c := by rw [List.append_assoc, List.drop_left]
  have hld : ld (putN n ++ c) = (pre 9 (n / 128)).length := by
    unfold putN
    rw [List.append_assoc]
    exact ld_app _ _ _ (pre_high 9 _) (by rw [u8_toNat _ (by omega)]; omega)
  have hlen : (putN n).length = (pre 9 (n / 128)).length + 1 := by simp [putN]
  have ht : (putN n ++ c).take ((pre 9 (n / 128)).length + 1) = putN n := by rw [← hlen, List.take_left]
  unfold gets
  rw [if_neg (by omega)]
  simp only [Int.toNat_natCast, hd, hld, ht, val_putN n h, and_true]
  rw [if_pos ⟨by rw [List.length_append]; omega, h8⟩, hlen]
  rfl

/-- Of what is cut off nothing is got. -/
theorem gets_cut (n i : Nat) (hi : i < (putN n).length) : gets ((putN n).take i) 0 = none := by
  have hall : ∀ x ∈ (putN n).take i, 128 ≤ x.toNat := by
    intro x hx
    have hlen : (putN n).length = (pre 9 (n / 128)).length + 1 := by simp [putN]
    unfold putN at hx
    rw [List.take_append_of_le_length (by omega)] at hx
    exact pre_high 9 _ x (List.mem_of_mem_take hx)
  unfold gets
  rw [if_neg (by omega)]
  simp only [Int.toNat_zero, List.drop_zero, ld_all _ hall]
  rw [if_neg (by omega)]
/-- With more behind it. -/
theorem gets_cut_app (n : Nat) (t : List UInt8) (i : Nat) (hi : i < (putN n).length) : gets ((putN n ++ t).take i) 0 = none := by
  rw [List.take_append_of_le_length (by omega)]
  exact gets_cut n i hi

theorem getTs_put (a c t : List UInt8) (h : t.length ≤ 9223372036854775807) : getTs (a ++ (putN t.length ++ t) ++ c) a.length = some (t, a.length + (putN t.length).length + t.length) := by
  have e : a ++ (putN t.length ++ t) ++ c = a ++ putN t.length ++ (t ++ c) := by simp
  unfold getTs
  rw [e, gets_put a (t ++ c) t.length h]
  simp only
  rw [if_pos (by simp; omega)]
  have hd : (a ++ putN t.length ++ (t ++ c)).drop (a.length + (putN t.length).length) = t ++ c := by
    rw [← List.length_append, List.drop_left]
  rw [hd, Nat.add_sub_cancel_left, List.take_left]
theorem getTs_cut (t : List UInt8) (i : Nat) (h : t.length ≤ 9223372036854775807) (hi : i < (putN t.length ++ t).length) : getTs ((putN t.length ++ t).take i) 0 = none := by
  unfold getTs
  by_cases h1 : i < (putN t.length).length
  · rw [gets_cut_app t.length t i h1]
  · have e : (putN t.length ++ t).take i = [] ++ putN t.length ++ t.take (i - (putN t.length).length) := by
      rw [List.take_append, List.take_of_length_le (by omega)]; simp
    rw [e]
    have hg := gets_put [] (t.take (i - (putN t.length).length)) t.length h
    simp only [List.length_nil, Int.natCast_zero, Nat.zero_add] at hg
    have hg' : gets ([] ++ putN t.length ++ t.take (i - (putN t.length).length)) 0 = some (t.length, (putN t.length).length) := hg
    rw [hg']
    simp only
    rw [List.length_append] at hi
    rw [if_neg (by simp; omega)]

theorem val8_big : ∀ (k n : Nat), val8 (big k n) = n % 256 ^ k
  | 0, n => by simp [big, val8]; omega
  | k + 1, n => by
    rw [big, val8_cons, val8_big k n, big_length, u8_toNat _ (by omega), Nat.mod_pow_succ, Nat.mul_comm, Nat.add_comm]
theorem val8_bigN (n : Nat) (h : n ≤ 9223372036854775807) : val8 (bigN n) = n := by
  unfold bigN
  rw [val8_big]
  omega
theorem bigN_length (n : Nat) : (bigN n).length = 8 := big_length 8 n
theorem bigN_head (n : Nat) (h : n ≤ 9223372036854775807) (r : List UInt8) : ((bigN n ++ r).getD 0 0).toNat < 128 := by
  have e : bigN n = u8 (n / 256 ^ 7 % 256) :: big 7 n := rfl
  rw [e, List.cons_append, List.getD_cons_zero, u8_toNat _ (by omega)]
  omega
theorem ofBigs_big (a c : List UInt8) (n : Nat) (h : n ≤ 9223372036854775807) : ofBigs (a ++ bigN n ++ c) a.length = some n := by
  have hl := bigN_length n
  have hd : (a ++ bigN n ++ c).drop a.length = bigN n ++ c := by rw [List.append_assoc, List.drop_left]
  have hh : ((a ++ bigN n ++ c).getD a.length 0) = (bigN n ++ c).getD 0 0 := by
    rw [List.append_assoc]
    simp [List.getD, List.getElem?_append_right]
  have hb := bigN_head n h c
  unfold ofBigs
  simp only [Int.toNat_natCast]
  have hlen : (a ++ bigN n ++ c).length = a.length + 8 + c.length := by simp [hl, Nat.add_assoc]
  rw [if_neg (by rw [hh]; omega), hd, ← hl, List.take_left, val8_bigN n h]
theorem ofBigs_short (l : List UInt8) (h : l.length < 8) : ofBigs l 0 = none := by
  unfold ofBigs
  rw [if_pos (by omega)]

/-- Lists of one length with one number are one. -/
theorem val8_inj : ∀ (k : Nat) (a b : List UInt8), a.length = k → b.length = k → val8 a = val8 b → a = b
  | 0, a, b, ha, hb, _ => by rw [List.eq_nil_of_length_eq_zero ha, List.eq_nil_of_length_eq_zero hb]
  | k + 1, a, b, ha, hb, h => by
    have na : a ≠ [] := by intro e; simp [e] at ha
    have nb : b ≠ [] := by intro e; simp [e] at hb
    rw [← List.dropLast_concat_getLast na, ← List.dropLast_concat_getLast nb, val8_snoc, val8_snoc] at h
    have l1 := (a.getLast na).toNat_lt
    have l2 := (b.getLast nb).toNat_lt
    have h1 : val8 a.dropLast = val8 b.dropLast := by omega
    have h2 : a.getLast na = b.getLast nb := u8_ext (by omega)
    rw [← List.dropLast_concat_getLast na, ← List.dropLast_concat_getLast nb, val8_inj k _ _ (by simp [ha]) (by simp [hb]) h1, h2]
theorem bigN_val8 (ds : List UInt8) (h : ds.length = 8) (hv : val8 ds ≤ 9223372036854775807) : bigN (val8 ds) = ds :=
  val8_inj 8 _ _ (bigN_length _) h (val8_bigN _ hv)
theorem bigN_inj (a b : Nat) (ha : a ≤ 9223372036854775807) (hb : b ≤ 9223372036854775807) : bigN a = bigN b ↔ a = b :=
  ⟨fun h => by rw [← val8_bigN a ha, ← val8_bigN b hb, h], fun h => by rw [h]⟩

/-- What ofBigs tells is there. -/
theorem ofBigs_bounds {l : List UInt8} {at_ : Int} {n : Nat} (h : ofBigs l at_ = some n) : 0 ≤ at_ ∧ at_ + 8 ≤ l.length ∧ n ≤ 9223372036854775807 ∧ bigN n = (l.drop at_.toNat).take 8 := by
  unfold ofBigs at h
  split at h
  · simp at h
  · rename_i hc
    simp only [not_or, Int.not_lt, Nat.not_le] at hc
    obtain ⟨h1, h2, h3⟩ := hc
    simp only [Option.some.injEq] at h
    have hl : ((l.drop at_.toNat).take 8).length = 8 := by rw [List.length_take, List.length_drop]; omega
    have hv : val8 ((l.drop at_.toNat).take 8) ≤ 9223372036854775807 := by
      have e : (l.drop at_.toNat).take 8 = l[at_.toNat]'(by omega) :: (l.drop (at_.toNat + 1)).take 7 := by
        rw [List.drop_eq_getElem_cons (by omega), List.take_succ_cons]
      have hb : (l[at_.toNat]'(by omega)).toNat < 128 := by
        have : l.getD at_.toNat 0 = l[at_.toNat]'(by omega) := by simp [List.getD, List.getElem?_eq_getElem (show at_.toNat < l.length by omega)]
        rw [← this]; exact h3
      have h4 := val8_lt ((l.drop (at_.toNat + 1)).take 7)
      have h5 : ((l.drop (at_.toNat + 1)).take 7).length = 7 := by rw [List.length_take, List.length_drop]; omega
      rw [e, val8_cons, h5]
      rw [h5] at h4
      omega
    refine ⟨h1, by omega, by omega, ?_⟩
    rw [← h]
    exact bigN_val8 _ hl hv

theorem pre_len_mono : ∀ (f a b : Nat), a ≤ b → (pre f a).length ≤ (pre f b).length
  | 0, a, b, _ => by simp [pre]
  | f + 1, a, b, h => by
    by_cases ha : a = 0
    · subst ha; simp [pre]
    · rw [pre_step f a (by omega), pre_step f b (by omega)]
      have := pre_len_mono f (a / 128) (b / 128) (by omega)
      simp; omega
theorem putN_len_mono (a b : Nat) (h : a ≤ b) : (putN a).length ≤ (putN b).length := by
  have := pre_len_mono 9 (a / 128) (b / 128) (by omega)
  simp [putN]; omega
theorem putN_len_one (a : Nat) : (putN a).length = 1 ↔ a < 128 := by
  simp only [putN, List.length_append, List.length_singleton]
  constructor
  · intro h
    rcases Nat.lt_or_ge a 128 with h1 | h1
    · exact h1
    · rw [show (9 : Nat) = 8 + 1 from rfl, pre_step 8 (a / 128) (by omega)] at h
      simp at h
  · intro h
    rw [show a / 128 = 0 from by omega, pre_zero]; rfl

/-- The order of texts of one length is that of their numbers. -/
theorem less_val8 : ∀ (a b : List UInt8), a.length = b.length → Op.bytesLess a b = decide (val8 a < val8 b)
  | [], [], _ => by simp [Op.bytesLess]
  | [], y :: b, h => by simp at h
  | x :: a, [], h => by simp at h
  | x :: a, y :: b, h => by
    have hl : a.length = b.length := by simpa using h
    have ih := less_val8 a b hl
    have h1 := val8_lt a
    have h2 := val8_lt b
    rw [hl] at h1
    simp only [Op.bytesLess]
    rw [ih, val8_cons, val8_cons, hl]
    by_cases hlt : x.toNat < y.toNat
    · have h3 : (x.toNat + 1) * 256 ^ b.length ≤ y.toNat * 256 ^ b.length := Nat.mul_le_mul_right _ (by omega)
      rw [Nat.add_mul, Nat.one_mul] at h3
      have e1 : (decide (x < y)) = true := by simpa [UInt8.lt_iff_toNat_lt] using hlt
      rw [e1, Bool.true_or, eq_comm, decide_eq_true_eq]
      omega
    · have e1 : (decide (x < y)) = false := by simpa [UInt8.lt_iff_toNat_lt] using hlt
      rw [e1, Bool.false_or]
      by_cases heq : x = y
      · subst heq
        rw [show (x == x) = true from by simp, Bool.true_and]
        congr 1
        simp
      · have hne : x.toNat ≠ y.toNat := fun e => heq (u8_ext e)
        have h3 : (y.toNat + 1) * 256 ^ b.length ≤ x.toNat * 256 ^ b.length := Nat.mul_le_mul_right _ (by omega)
        rw [Nat.add_mul, Nat.one_mul] at h3
        rw [show (x == y) = false from by simpa using heq, Bool.false_and, eq_comm, decide_eq_false_iff_not]
        omega
theorem less_big (a b : Nat) (ha : a ≤ 9223372036854775807) (hb : b ≤ 9223372036854775807) : Op.bytesLess (bigN a) (bigN b) = decide (a < b) := by
  rw [less_val8 _ _ (by rw [bigN_length, bigN_length]), val8_bigN a ha, val8_bigN b hb]

end Go.Proofs.Ytekmnpmeienhhaa.M
