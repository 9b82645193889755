/- Plain mathematics of layer 1: numbers put in digits of 7 bits, and as eight bytes; what stands at a place. No Go here. -/
namespace Go.Proofs.Ytekmnpmeienhhaa.M
set_option linter.unusedVariables false

def u8 (n : Nat) : UInt8 := UInt8.ofNat n

theorem u8_toNat (n : Nat) (h : n < 256) : (u8 n).toNat = n := by
  simp [u8, UInt8.toNat_ofNat']; omega

/-- The digits ahead of the last one, at most f of them. -/
def pre : Nat → Nat → List UInt8
  | 0, _ => []
  | f + 1, n => if n = 0 then [] else pre f (n / 128) ++ [u8 (n % 128 + 128)]

/-- P1.1 Put. -/
def putN (n : Nat) : List UInt8 := pre 9 (n / 128) ++ [u8 (n % 128)]

theorem pre_zero (f : Nat) : pre f 0 = [] := by cases f <;> simp [pre]
theorem pre_step (f n : Nat) (h : 0 < n) : pre (f + 1) n = pre f (n / 128) ++ [u8 (n % 128 + 128)] := by
  simp [pre]; omega

/-- Fuel to spare makes no difference. -/
theorem pre_fuel : ∀ (f n : Nat), n < 128 ^ f → pre (f + 1) n = pre f n
  | 0, n, h => by
    have : n = 0 := by simpa using h
    subst this; simp [pre]
  | f + 1, n, h => by
    by_cases h0 : n = 0
    · subst h0; simp [pre]
    · rw [pre_step (f + 1) n (by omega), pre_fuel f (n / 128) (by rw [Nat.pow_succ] at h; omega), pre_step f n (by omega)]

theorem pre_length : ∀ (f n : Nat), (pre f n).length ≤ f
  | 0, n => by simp [pre]
  | f + 1, n => by
    simp only [pre]
    split
    · simp
    · have := pre_length f (n / 128); simp; omega

theorem putN_length (n : Nat) : 1 ≤ (putN n).length ∧ (putN n).length ≤ 10 := by
  have := pre_length 9 (n / 128)
  simp [putN]; omega

/-- The digits written out by how many there are: c of them. -/
theorem pre_exact : ∀ (c f n : Nat), c ≤ f → n < 128 ^ c → (c = 0 ∨ 128 ^ (c - 1) ≤ n) → pre f n = (List.range c).map (fun i => u8 (n / 128 ^ (c - 1 - i) % 128 + 128))
  | 0, f, n, _, h, _ => by
    have : n = 0 := by simpa using h
    subst this; simp [pre_zero]
  | c + 1, 0, n, hf, _, _ => by omega
  | c + 1, f + 1, n, hf, h, hc => by
    have hn : 128 ^ c ≤ n := by simpa using hc
    have hpos : 0 < n := Nat.lt_of_lt_of_le (Nat.pow_pos (by decide)) hn
    rw [pre_step f n hpos, pre_exact c f (n / 128) (by omega) (by rw [Nat.pow_succ] at h; omega) ?_]
    · rw [List.range_succ, List.map_append]
      congr 1
      · apply List.map_congr_left
        intro i hi
        have hi' : i < c := by simpa using hi
        rw [Nat.div_div_eq_div_mul, ← Nat.pow_succ', show (c - 1 - i).succ = c + 1 - 1 - i from by omega]
      · simp
    · rcases c with _ | c
      · left; rfl
      · right
        rw [Nat.pow_succ] at hn
        simp; omega

/-- P1.1 Big: the last k of the eight bytes. -/
def big : Nat → Nat → List UInt8
  | 0, _ => []
  | k + 1, n => u8 (n / 256 ^ k % 256) :: big k n
def bigN (n : Nat) : List UInt8 := big 8 n
theorem big_length : ∀ (k n : Nat), (big k n).length = k
  | 0, _ => rfl
  | k + 1, n => by simp [big, big_length k n]

/-- How many bytes of 128 or more stand at the beginning. -/
def ld : List UInt8 → Nat
  | [] => 0
  | b :: r => if 128 ≤ b.toNat then ld r + 1 else 0

theorem ld_le : ∀ t, ld t ≤ t.length
  | [] => Nat.le_refl _
  | b :: r => by have := ld_le r; simp only [ld]; split <;> simp; omega
theorem ld_high : ∀ (t : List UInt8) (j : Nat) (h : j < ld t) (hj : j < t.length), 128 ≤ (t[j]).toNat
  | [], j, h, _ => by simp [ld] at h
  | b :: r, j, h, hj => by
    simp only [ld] at h
    split at h
    · rcases j with _ | j
      · simpa
      · simpa using ld_high r j (by omega) (by simpa using hj)
    · omega
theorem ld_low : ∀ (t : List UInt8) (hj : ld t < t.length), (t[ld t]).toNat < 128
  | [], h => by simp at h
  | b :: r, h => by
    by_cases hb : 128 ≤ b.toNat
    · have e : ld (b :: r) = ld r + 1 := by simp [ld, hb]
      have := ld_low r (by rw [e] at h; simpa using h)
      simp only [e]; simpa using this
    · have e : ld (b :: r) = 0 := by simp [ld, hb]
      simp only [e]; simpa using hb

/-- Digits as a number. -/
def val (ds : List UInt8) : Nat := ds.foldl (fun n d => n * 128 + d.toNat % 128) 0
theorem val_snoc (ds : List UInt8) (d : UInt8) : val (ds ++ [d]) = val ds * 128 + d.toNat % 128 := by simp [val]
theorem val_nil : val [] = 0 := rfl
theorem val_take (t : List UInt8) (j : Nat) (h : j < t.length) : val (t.take (j + 1)) = val (t.take j) * 128 + (t[j]).toNat % 128 := by
  rw [List.take_succ_eq_append_getElem h, val_snoc]

/-- By induction from behind. -/
theorem snoc_ind {p : List UInt8 → Prop} (h0 : p []) (h1 : ∀ ds d, p ds → p (ds ++ [d])) (l : List UInt8) : p l := by
  have h : ∀ n (l : List UInt8), l.length = n → p l := by
    intro n
    induction n with
    | zero => intro l hl; rw [List.eq_nil_of_length_eq_zero hl]; exact h0
    | succ n ih =>
      intro l hl
      have hne : l ≠ [] := by intro e; simp [e] at hl
      rw [← List.dropLast_concat_getLast hne]
      exact h1 _ _ (ih _ (by simp [hl]))
  exact h _ l rfl

theorem val_lt (ds : List UInt8) : val ds < 128 ^ ds.length := by
  refine snoc_ind (p := fun ds => val ds < 128 ^ ds.length) (by simp [val]) ?_ ds
  intro ds d ih
  rw [val_snoc, List.length_append]
  simp only [List.length_singleton, Nat.pow_succ]
  omega

/-- P1.2 Get: the number that stands at a place, and the place behind it. -/
def gets (l : List UInt8) (at_ : Int) : Option (Nat × Nat) :=
  if at_ < 0 then none
  else
    let t := l.drop at_.toNat
    let k := ld t
    if k < t.length ∧ k ≤ 8 ∧ putN (val (t.take (k + 1))) = t.take (k + 1) then some (val (t.take (k + 1)), at_.toNat + k + 1) else none

theorem gets_out (l : List UInt8) (at_ : Int) (h : at_ < 0 ∨ (l.length : Int) ≤ at_) : gets l at_ = none := by
  unfold gets
  split
  · rfl
  · rename_i h0
    have e : l.drop at_.toNat = [] := List.drop_of_length_le (by omega)
    simp [e]

/-- What gets tells of the place behind. -/
theorem gets_bounds {l : List UInt8} {at_ : Int} {n next : Nat} (h : gets l at_ = some (n, next)) : 0 ≤ at_ ∧ at_ < next ∧ next ≤ l.length ∧ n ≤ 9223372036854775807 ∧ (next : Int) ≤ at_ + 9 ∧ putN n = (l.drop at_.toNat).take (next - at_.toNat) := by
  unfold gets at h
  split at h
  · simp at h
  · rename_i h0
    simp only at h
    split at h
    · rename_i hc
      obtain ⟨h1, h2, h3⟩ := hc
      simp only [Option.some.injEq, Prod.mk.injEq] at h
      obtain ⟨rfl, rfl⟩ := h
      have hd : (l.drop at_.toNat).length = l.length - at_.toNat := List.length_drop
      have h4 := val_lt ((l.drop at_.toNat).take (ld (l.drop at_.toNat) + 1))
      have h5 : ((l.drop at_.toNat).take (ld (l.drop at_.toNat) + 1)).length ≤ 9 := by rw [List.length_take]; omega
      have h6 : 128 ^ ((l.drop at_.toNat).take (ld (l.drop at_.toNat) + 1)).length ≤ 128 ^ 9 := Nat.pow_le_pow_right (by decide) h5
      refine ⟨by omega, by omega, by omega, by omega, by omega, ?_⟩
      rw [h3]
      congr 1
      omega
    · simp at h

/-- P1.2 GetText. -/
def getTs (l : List UInt8) (at_ : Int) : Option (List UInt8 × Nat) :=
  match gets l at_ with
  | some (n, next) => if next + n ≤ l.length then some ((l.drop next).take (next + n - next), next + n) else none
  | none => none

/-- Bytes as a number. -/
def val8 (ds : List UInt8) : Nat := ds.foldl (fun n d => n * 256 + d.toNat) 0
theorem val8_snoc (ds : List UInt8) (d : UInt8) : val8 (ds ++ [d]) = val8 ds * 256 + d.toNat := by simp [val8]
theorem val8_take (t : List UInt8) (j : Nat) (h : j < t.length) : val8 (t.take (j + 1)) = val8 (t.take j) * 256 + (t[j]).toNat := by
  rw [List.take_succ_eq_append_getElem h, val8_snoc]
theorem val8_lt (ds : List UInt8) : val8 ds < 256 ^ ds.length := by
  refine snoc_ind (p := fun ds => val8 ds < 256 ^ ds.length) (by simp [val8]) ?_ ds
  intro ds d ih
  have := d.toNat_lt
  rw [val8_snoc, List.length_append]
  simp only [List.length_singleton, Nat.pow_succ]
  omega
theorem val8_cons (d : UInt8) (ds : List UInt8) : val8 (d :: ds) = d.toNat * 256 ^ ds.length + val8 ds := by
  refine snoc_ind (p := fun ds => val8 (d :: ds) = d.toNat * 256 ^ ds.length + val8 ds) (by simp [val8]) ?_ ds
  intro ds e ih
  rw [← List.cons_append, val8_snoc, ih, val8_snoc, List.length_append]
  simp only [List.length_singleton, Nat.pow_succ, Nat.add_mul, Nat.mul_assoc, Nat.add_assoc]

/-- P1.2 OfBig. -/
def ofBigs (l : List UInt8) (at_ : Int) : Option Nat :=
  if at_ < 0 ∨ (l.length : Int) - 8 < at_ ∨ 128 ≤ (l.getD at_.toNat 0).toNat then none else some (val8 ((l.drop at_.toNat).take 8))

/-- Put's digits written out by how many there are. -/
theorem putN_exact (c n : Nat) (hc : 1 ≤ c) (hc9 : c ≤ 9) (h : n < 128 ^ c) (hlo : c = 1 ∨ 128 ^ (c - 1) ≤ n) :
    putN n = (List.range c).map (fun i => if i + 1 < c then u8 (n / 128 ^ (c - 1 - i) % 128 + 128) else u8 (n % 128)) := by
  obtain ⟨d, rfl⟩ : ∃ d, c = d + 1 := ⟨c - 1, by omega⟩
  unfold putN
  rw [pre_exact d 9 (n / 128) (by omega) (by rw [Nat.pow_succ] at h; omega) ?_, List.range_succ, List.map_append]
  · congr 1
    · apply List.map_congr_left
      intro i hi
      have hi' : i < d := by simpa using hi
      rw [if_pos (by omega), Nat.div_div_eq_div_mul, ← Nat.pow_succ', show (d - 1 - i).succ = d + 1 - 1 - i from by omega]
    · simp
  · rcases d with _ | d
    · exact .inl rfl
    · right
      have h1 : 128 ^ (d + 1) ≤ n := by simpa using hlo
      rw [Nat.pow_succ] at h1
      simp; omega

theorem u8_ext {a b : UInt8} (h : a.toNat = b.toNat) : a = b := UInt8.toNat_inj.1 h
theorem u8_of (d : UInt8) : u8 d.toNat = d := u8_ext (u8_toNat _ d.toNat_lt)

/-- No number's digits begin with an empty one. -/
theorem pre_head : ∀ (f n : Nat) (d : UInt8) (r : List UInt8), n < 128 ^ f → pre f n = d :: r → d.toNat ≠ 128
  | 0, n, d, r, _, e => by simp [pre] at e
  | f + 1, n, d, r, h, e => by
    have h0 : 0 < n := by
      rcases Nat.eq_zero_or_pos n with h0 | h0
      · subst h0; simp [pre] at e
      · exact h0
    rw [pre_step f n h0] at e
    have h1 : n / 128 < 128 ^ f := by rw [Nat.pow_succ] at h; omega
    cases hp : pre f (n / 128) with
    | nil =>
      rw [hp] at e
      simp only [List.nil_append, List.cons.injEq] at e
      have h2 : n / 128 = 0 := by
        rcases Nat.eq_zero_or_pos (n / 128) with h2 | h2
        · exact h2
        · rcases f with _ | f
          · omega
          · rw [pre_step f _ h2] at hp; simp at hp
      rw [← e.1, u8_toNat _ (by omega)]
      omega
    | cons d' r' =>
      rw [hp] at e
      simp only [List.cons_append, List.cons.injEq] at e
      rw [← e.1]
      exact pre_head f _ d' r' h1 hp

/-- Digits of 128 or more, the first one not 128, are those of their number. -/
theorem pre_val (hs : List UInt8) : ∀ f, hs.length ≤ f → (∀ d ∈ hs, 128 ≤ d.toNat) → (∀ d r, hs = d :: r → d.toNat ≠ 128) → pre f (val hs) = hs ∧ (hs ≠ [] → 0 < val hs) := by
  refine snoc_ind (p := fun hs => ∀ f, hs.length ≤ f → (∀ d ∈ hs, 128 ≤ d.toNat) → (∀ d r, hs = d :: r → d.toNat ≠ 128) → pre f (val hs) = hs ∧ (hs ≠ [] → 0 < val hs)) ?_ ?_ hs
  · intro f _ _ _
    exact ⟨by rw [val_nil, pre_zero], fun h => absurd rfl h⟩
  · intro ds d ih f hf hh hd
    have hlt := d.toNat_lt
    have h128 : 128 ≤ d.toNat := hh d (by simp)
    rw [val_snoc]
    obtain ⟨g, rfl⟩ : ∃ g, f = g + 1 := ⟨f - 1, by simp at hf; omega⟩
    have ih' := ih g (by simp at hf; omega) (fun x hx => hh x (by simp [hx])) (fun x r e => hd x (r ++ [d]) (by rw [e]; rfl))
    have hpos : 0 < val ds * 128 + d.toNat % 128 := by
      cases ds with
      | nil =>
        have := hd d [] rfl
        simp [val]; omega
      | cons x r =>
        have := ih'.2 (by simp)
        omega
    refine ⟨?_, fun _ => hpos⟩
    rw [pre_step g _ hpos, show (val ds * 128 + d.toNat % 128) / 128 = val ds from by omega, ih'.1, show (val ds * 128 + d.toNat % 128) % 128 + 128 = d.toNat from by omega, u8_of]

/-- Which digits stand as Put puts them: all but those that begin with an empty one. -/
theorem putN_val (t : List UInt8) (h : ld t < t.length) (h8 : ld t ≤ 8) : putN (val (t.take (ld t + 1))) = t.take (ld t + 1) ↔ (t.getD 0 0).toNat ≠ 128 := by
  have hlow := ld_low t h
  have hlen : (t.take (ld t)).length = ld t := by rw [List.length_take]; omega
  have hv := val_lt (t.take (ld t))
  rw [hlen] at hv
  have hv9 : val (t.take (ld t)) < 128 ^ 9 := Nat.lt_of_lt_of_le hv (Nat.pow_le_pow_right (by decide) (by omega))
  rw [val_take t _ h]
  have e1 : t.take (ld t + 1) = t.take (ld t) ++ [t[ld t]] := List.take_succ_eq_append_getElem h
  have e2 : putN (val (t.take (ld t)) * 128 + (t[ld t]).toNat % 128) = pre 9 (val (t.take (ld t))) ++ [t[ld t]] := by
    unfold putN
    rw [show (val (t.take (ld t)) * 128 + (t[ld t]).toNat % 128) / 128 = val (t.take (ld t)) from by omega, show (val (t.take (ld t)) * 128 + (t[ld t]).toNat % 128) % 128 = (t[ld t]).toNat from by omega, u8_of]
  rw [e1, e2]
  have hall : ∀ d ∈ t.take (ld t), 128 ≤ d.toNat := by
    intro d hd
    obtain ⟨j, hj, rfl⟩ := List.getElem_of_mem hd
    rw [List.getElem_take]
    exact ld_high t j (by omega) (by omega)
  cases t with
  | nil => simp at h
  | cons x r =>
    simp only [List.getD_cons_zero]
    by_cases hx : x.toNat = 128
    · have hld : ld (x :: r) = ld r + 1 := by simp [ld, hx]
      refine ⟨fun e => ?_, fun hne => absurd hx hne⟩
      have e' := (List.append_left_inj _).1 e
      rw [hld, List.take_succ_cons] at e'
      rw [hld, List.take_succ_cons] at hv9
      exact absurd hx (pre_head 9 _ x _ hv9 e')
    · refine ⟨fun _ => hx, fun _ => ?_⟩
      congr 1
      refine (pre_val _ 9 (by omega) hall ?_).1
      intro d r' e
      by_cases h0 : ld (x :: r) = 0
      · rw [h0] at e; simp at e
      · obtain ⟨m, hm⟩ : ∃ m, ld (x :: r) = m + 1 := ⟨ld (x :: r) - 1, by omega⟩
        rw [hm, List.take_succ_cons, List.cons.injEq] at e
        rw [← e.1]; exact hx

end Go.Proofs.Ytekmnpmeienhhaa.M
