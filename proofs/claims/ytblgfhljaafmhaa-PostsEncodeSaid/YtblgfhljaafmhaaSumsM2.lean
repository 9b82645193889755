/- Plain mathematics of layer 2, continued: sums without the modulus, windows, and texts that differ. No Go here. -/
import Derived.Test.YtblgfhljaafmhaaSumsM
import Derived.Test.YtblgfhljaafmhaaIntsM2
namespace Go.Proofs.Ytblgfhljaafmhaa.M
set_option linter.unusedVariables false

/-- The sum of the bytes, and the sum of its steps. -/
def tot : List UInt8 → Nat
  | [] => 0
  | x :: l => x.toNat + tot l
def wgt : List UInt8 → Nat
  | [] => 0
  | x :: l => (l.length + 1) * x.toNat + wgt l

theorem runP_eq (l : List UInt8) : ∀ p : Nat × Nat, (runP p l).1 % 65521 = (p.1 + tot l) % 65521 ∧ (runP p l).2 % 65521 = (p.2 + l.length * p.1 + wgt l) % 65521 := by
  induction l with
  | nil => intro p; simp [runP, tot, wgt]
  | cons x l ih =>
    intro p
    have h := ih (stepP p x)
    have e : runP p (x :: l) = runP (stepP p x) l := rfl
    rw [e]
    have h1 : (stepP p x).1 = (p.1 + x.toNat) % 65521 := rfl
    have h2 : (stepP p x).2 = (p.2 + (p.1 + x.toNat) % 65521) % 65521 := rfl
    rw [h1, h2] at h
    refine ⟨?_, ?_⟩
    · rw [h.1]; simp only [tot]; omega
    · rw [h.2]
      simp only [wgt, List.length_cons]
      have e1 : (l.length * ((p.1 + x.toNat) % 65521)) % 65521 = (l.length * (p.1 + x.toNat)) % 65521 := by
        rw [Nat.mul_mod, Nat.mod_mod, ← Nat.mul_mod]
      rw [Nat.mul_add] at e1
      rw [Nat.add_mul, Nat.add_mul, Nat.one_mul, Nat.one_mul]
      generalize l.length * ((p.1 + x.toNat) % 65521) = z at *
      generalize l.length * p.1 = u at *
      generalize l.length * x.toNat = v at *
      omega

theorem parts1 : partsP 1 = (1, 0) := by decide
/-- A text's parts. -/
def sp (l : List UInt8) : Nat × Nat := runP (1, 0) l
theorem sumP_sp (l : List UInt8) : sumP l = wholeP (sp l) := by
  unfold sumP moreP sp
  rw [parts1]
theorem sp_lt (l : List UInt8) : (sp l).1 < 65521 ∧ (sp l).2 < 65521 := runP_lt (1, 0) (by decide) l
theorem sp_eq (l : List UInt8) : (sp l).1 = (1 + tot l) % 65521 ∧ (sp l).2 = (l.length + wgt l) % 65521 := by
  have h := runP_eq l (1, 0)
  have h2 := sp_lt l
  unfold sp at *
  simp only [Nat.mul_one, Nat.zero_add] at h
  omega
theorem sumP_inj (a b : List UInt8) (h : sumP a = sumP b) : (sp a).1 = (sp b).1 ∧ (sp a).2 = (sp b).2 := by
  rw [sumP_sp, sumP_sp] at h
  have h1 := sp_lt a
  have h2 := sp_lt b
  simp only [wholeP] at h
  omega
theorem sumP_lt (l : List UInt8) : sumP l < 4294967296 := moreP_lt 1 l

theorem tot_app (a b : List UInt8) : tot (a ++ b) = tot a + tot b := by
  induction a with
  | nil => simp [tot]
  | cons x a ih => simp only [List.cons_append, tot, ih]; omega
theorem wgt_app (a b : List UInt8) : wgt (a ++ b) = wgt a + b.length * tot a + wgt b := by
  induction a with
  | nil => simp [wgt, tot]
  | cons x a ih =>
    simp only [List.cons_append, wgt, tot, ih, List.length_append, Nat.add_mul, Nat.mul_add, Nat.one_mul]
    omega

/-- P2.2: a window that is moved. -/
theorem roll_window (x y : UInt8) (m : List UInt8) (n : Nat) (hn : n = m.length + 1) : rollP (sumP (x :: m)) (modN n) x.toNat y.toNat = sumP (m ++ [y]) := by
  have hp : partsP (sumP (x :: m)) = sp (x :: m) := by rw [sumP_sp, partsP_whole _ (sp_lt _)]
  have h0 := sp_eq (x :: m)
  have h1 := sp_eq (m ++ [y])
  have hl := sp_lt (x :: m)
  have ht : tot (m ++ [y]) = tot m + y.toNat := by rw [tot_app]; simp [tot]
  have hw : wgt (m ++ [y]) = wgt m + tot m + y.toNat := by rw [wgt_app]; simp [wgt]
  have hx := x.toNat_lt
  have hy := y.toNat_lt
  have hmn : modN n = n % 65521 := by unfold modN; omega
  have e1 : (n % 65521 * x.toNat) % 65521 = (n * x.toNat) % 65521 := by rw [Nat.mul_mod, Nat.mod_mod, ← Nat.mul_mod]
  unfold rollP
  rw [hp, sumP_sp (m ++ [y]), hmn]
  simp only
  rw [e1]
  have hlen : (m ++ [y]).length = m.length + 1 := by simp
  rw [ht, hlen, hw] at h1
  simp only [tot, wgt, List.length_cons] at h0
  subst hn
  rw [Nat.add_mul, Nat.one_mul] at *
  have ha : ((sp (x :: m)).1 + 65521 - x.toNat + y.toNat) % 65521 = (sp (m ++ [y])).1 := by
    rw [h1.1, h0.1]; omega
  rw [ha]
  have hb : ((sp (x :: m)).2 + 65521 - (m.length * x.toNat + x.toNat) % 65521 + (sp (m ++ [y])).1 + 65521 - 1) % 65521 = (sp (m ++ [y])).2 := by
    rw [h1.2, h0.2, h1.1]
    generalize m.length * x.toNat = z
    omega
  rw [hb]

/-- One byte that is another one. -/
theorem tot_set (l : List UInt8) (k : Nat) (h : k < l.length) (v : UInt8) : tot (l.set k v) + l[k].toNat = tot l + v.toNat := by
  induction l generalizing k with
  | nil => simp at h
  | cons x l ih =>
    rcases k with _ | k
    · simp only [List.set_cons_zero, tot, List.getElem_cons_zero]; omega
    · have := ih k (by simpa using h)
      simp only [List.set_cons_succ, tot, List.getElem_cons_succ]; omega
theorem sum_one (l : List UInt8) (k : Nat) (h : k < l.length) (v : UInt8) : sumP (l.set k v) = sumP l ↔ v = l[k] := by
  constructor
  · intro e
    have h1 := (sumP_inj _ _ e).1
    rw [(sp_eq _).1, (sp_eq _).1] at h1
    have h2 := tot_set l k h v
    have h3 := v.toNat_lt
    have h4 := l[k].toNat_lt
    exact u8_ext (by omega)
  · intro e
    rw [e, List.set_getElem_self]

/-- 65521 is prime to what is below 256. -/
theorem coprime_small : ∀ d : Fin 256, d.val ≠ 0 → Nat.Coprime 65521 d.val := by decide +kernel
theorem mod_mul (m d : Nat) (hm : m < 65521) (hd : d < 256) (h : (m * d) % 65521 = 0) : m = 0 ∨ d = 0 := by
  by_cases h0 : d = 0
  · exact .inr h0
  · left
    have hc := coprime_small ⟨d, hd⟩ h0
    have h1 : 65521 ∣ m * d := Nat.dvd_of_mod_eq_zero h
    have h2 : 65521 ∣ m := Nat.Coprime.dvd_of_dvd_mul_right hc h1
    exact Nat.eq_zero_of_dvd_of_lt h2 hm

/-- Weights of a byte by its place. -/
theorem wgt_set (l : List UInt8) (k : Nat) (h : k < l.length) (v : UInt8) : wgt (l.set k v) + (l.length - k) * l[k].toNat = wgt l + (l.length - k) * v.toNat := by
  induction l generalizing k with
  | nil => simp at h
  | cons x l ih =>
    rcases k with _ | k
    · simp only [List.set_cons_zero, wgt, List.getElem_cons_zero, List.length_cons, Nat.sub_zero]; omega
    · have := ih k (by simpa using h)
      simp only [List.set_cons_succ, wgt, List.getElem_cons_succ, List.length_cons, List.length_set]
      rw [show l.length + 1 - (k + 1) = l.length - k from by omega]
      omega

/-- Two bytes that change places. -/
theorem sum_swap (l : List UInt8) (i k : Nat) (hi : i < l.length) (hk : k < l.length) (hlen : l.length ≤ 50000) :
    sumP ((l.set i l[k]).set k l[i]) = sumP l ↔ l[i] = l[k] := by
  constructor
  · intro e
    by_cases hik : i = k
    · subst hik; rfl
    · have h1 := (sumP_inj _ _ e).2
      rw [(sp_eq _).2, (sp_eq _).2] at h1
      simp only [List.length_set] at h1
      have w1 := wgt_set l i hi l[k]
      have w2 := wgt_set (l.set i l[k]) k (by simpa using hk) l[i]
      rw [List.getElem_set_ne hik] at w2
      simp only [List.length_set] at w2
      have hx := l[i].toNat_lt
      have hy := l[k].toNat_lt
      have key : ∀ (m d : Nat), m < 65521 → d < 256 → (m * d) % 65521 = 0 → m ≠ 0 → d = 0 := fun m d a b c e => (mod_mul m d a b c).resolve_left e
      apply u8_ext
      generalize l[i].toNat = x at *
      generalize l[k].toNat = y at *
      generalize wgt ((l.set i l[k]).set k l[i]) = W2 at *
      generalize wgt (l.set i l[k]) = W1 at *
      generalize wgt l = W at *
      rcases Nat.lt_or_gt_of_ne hik with hlt | hlt
      · obtain ⟨m, rfl⟩ : ∃ m, k = i + m := ⟨k - i, by omega⟩
        obtain ⟨c, hc⟩ : ∃ c, l.length - (i + m) = c := ⟨_, rfl⟩
        rw [show l.length - i = c + m from by omega, Nat.add_mul, Nat.add_mul] at w1
        rw [hc] at w2
        rcases Nat.le_total x y with hxy | hxy
        · obtain ⟨d, rfl⟩ : ∃ d, y = x + d := ⟨y - x, by omega⟩
          rw [Nat.mul_add, Nat.mul_add] at *
          have := key m d (by omega) (by omega) (by omega) (by omega)
          omega
        · obtain ⟨d, rfl⟩ : ∃ d, x = y + d := ⟨x - y, by omega⟩
          rw [Nat.mul_add, Nat.mul_add] at *
          have := key m d (by omega) (by omega) (by omega) (by omega)
          omega
      · obtain ⟨m, rfl⟩ : ∃ m, i = k + m := ⟨i - k, by omega⟩
        obtain ⟨c, hc⟩ : ∃ c, l.length - (k + m) = c := ⟨_, rfl⟩
        rw [hc] at w1
        rw [show l.length - k = c + m from by omega, Nat.add_mul, Nat.add_mul] at w2
        rcases Nat.le_total x y with hxy | hxy
        · obtain ⟨d, rfl⟩ : ∃ d, y = x + d := ⟨y - x, by omega⟩
          rw [Nat.mul_add, Nat.mul_add] at *
          have := key m d (by omega) (by omega) (by omega) (by omega)
          omega
        · obtain ⟨d, rfl⟩ : ∃ d, x = y + d := ⟨x - y, by omega⟩
          rw [Nat.mul_add, Nat.mul_add] at *
          have := key m d (by omega) (by omega) (by omega) (by omega)
          omega
  · intro e
    have e1 : l.set i l[k] = l := by rw [← e]; exact List.set_getElem_self _
    have e2 : (l.set i l[k]).set k l[i] = l := by rw [e1, e]; exact List.set_getElem_self _
    rw [e2]

theorem big4_length (n : Nat) : (big 4 n).length = 4 := big_length 4 n
theorem val8_big4 (n : Nat) (h : n < 4294967296) : val8 (big 4 n) = n := by rw [val8_big]; omega
theorem big4_inj (a b : Nat) (ha : a < 4294967296) (hb : b < 4294967296) : big 4 a = big 4 b ↔ a = b :=
  ⟨fun h => by rw [← val8_big4 a ha, ← val8_big4 b hb, h], fun h => by rw [h]⟩
theorem less_big4 (a b : Nat) (ha : a < 4294967296) (hb : b < 4294967296) : Op.bytesLess (big 4 a) (big 4 b) = decide (a < b) := by
  rw [less_val8 _ _ (by rw [big4_length, big4_length]), val8_big4 a ha, val8_big4 b hb]

end Go.Proofs.Ytblgfhljaafmhaa.M
