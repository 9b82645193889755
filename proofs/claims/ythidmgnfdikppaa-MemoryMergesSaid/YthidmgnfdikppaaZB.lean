/- Texts of lower layers, as one. -/
import Derived.Test.YthidmgnfdikppaaZA
import Derived.StillTailTactics
import Derived.Deep.RegionWith
import Derived.BigRegion
import Derived.Deep.QuietTactic
import Derived.BigQuiet
import Derived.Lib.QuietBelow
import Derived.ProofKit
import Derived.OpenShut
import Derived.Lib.SmallJoins
/- Plain mathematics of layer 2: sums over bytes. No Go here. -/
namespace Go.Proofs.Ythidmgnfdikppaa.M
set_option linter.unusedVariables false

/-- By a byte a sum's parts go on. -/
def stepP (p : Nat × Nat) (x : UInt8) : Nat × Nat := ((p.1 + x.toNat) % 65521, (p.2 + (p.1 + x.toNat) % 65521) % 65521)
def runP (p : Nat × Nat) (l : List UInt8) : Nat × Nat := l.foldl stepP p
def partsP (s : Nat) : Nat × Nat := (s % 65536 % 65521, s / 65536 % 65521)
def wholeP (p : Nat × Nat) : Nat := p.2 * 65536 + p.1
/-- P2.1 More. -/
def moreP (s : Nat) (l : List UInt8) : Nat := wholeP (runP (partsP s) l)
/-- P2.1 Sum. -/
def sumP (l : List UInt8) : Nat := moreP 1 l

theorem stepP_lt (p : Nat × Nat) (x : UInt8) : (stepP p x).1 < 65521 ∧ (stepP p x).2 < 65521 := by simp only [stepP]; omega
theorem partsP_lt (s : Nat) : (partsP s).1 < 65521 ∧ (partsP s).2 < 65521 := by simp only [partsP]; omega
theorem runP_nil (p : Nat × Nat) : runP p [] = p := rfl
theorem runP_snoc (p : Nat × Nat) (l : List UInt8) (x : UInt8) : runP p (l ++ [x]) = stepP (runP p l) x := by simp [runP]
theorem runP_app (p : Nat × Nat) (a b : List UInt8) : runP p (a ++ b) = runP (runP p a) b := by simp [runP]
theorem runP_take (p : Nat × Nat) (l : List UInt8) (k : Nat) (h : k < l.length) : runP p (l.take (k + 1)) = stepP (runP p (l.take k)) l[k] := by
  rw [List.take_succ_eq_append_getElem h, runP_snoc]
theorem runP_lt (p : Nat × Nat) (h : p.1 < 65521 ∧ p.2 < 65521) (l : List UInt8) : (runP p l).1 < 65521 ∧ (runP p l).2 < 65521 := by
  refine snoc_ind (p := fun l => (runP p l).1 < 65521 ∧ (runP p l).2 < 65521) h ?_ l
  intro ds d _
  rw [runP_snoc]
  exact stepP_lt _ _
theorem wholeP_lt (p : Nat × Nat) (h : p.1 < 65521 ∧ p.2 < 65521) : wholeP p < 4294967296 := by simp only [wholeP]; omega
theorem moreP_lt (s : Nat) (l : List UInt8) : moreP s l < 4294967296 := wholeP_lt _ (runP_lt _ (partsP_lt s) l)
theorem partsP_whole (p : Nat × Nat) (h : p.1 < 65521 ∧ p.2 < 65521) : partsP (wholeP p) = p := by
  obtain ⟨a, b⟩ := p
  simp only [partsP, wholeP, Prod.mk.injEq]
  simp only at h
  omega
/-- P2.4: joined texts. -/
theorem moreP_app (s : Nat) (a b : List UInt8) : moreP (moreP s a) b = moreP s (a ++ b) := by
  unfold moreP
  rw [partsP_whole _ (runP_lt _ (partsP_lt s) a), runP_app]

/-- P2.2 Roll: k is n modulo 65521. -/
def rollP (s : Nat) (k o i : Nat) : Nat :=
  let a := ((partsP s).1 + 65521 - o + i) % 65521
  wholeP (a, ((partsP s).2 + 65521 - k * o % 65521 + a + 65521 - 1) % 65521)
theorem rollP_lt (s k o i : Nat) : rollP s k o i < 4294967296 := wholeP_lt _ ⟨Nat.mod_lt _ (by decide), Nat.mod_lt _ (by decide)⟩
theorem tmod_cases (x : Int) : x.tmod 65521 = if 0 ≤ x then x % 65521 else -((-x) % 65521) := by
  by_cases h : 0 ≤ x
  · rw [if_pos h, Int.tmod_eq_emod_of_nonneg h]
  · rw [if_neg h]
    have e : x = -(-x) := by omega
    rw [e, Int.neg_tmod, Int.tmod_eq_emod_of_nonneg (by omega)]
    omega
/-- n modulo 65521. -/
def modN (n : Int) : Nat := (n % 65521).toNat

theorem modN_lt (n : Int) : modN n < 65521 := by unfold modN; omega
/-- The product that both ways take modulo 65521. -/
theorem prod_cases (n o : Int) : ((modN n : Nat) : Int) * o = n.tmod 65521 * o ∧ n.tmod 65521 ≥ 0 ∨ ((modN n : Nat) : Int) * o = n.tmod 65521 * o + 65521 * o ∧ n.tmod 65521 < 0 := by
  have h := tmod_cases n
  have hm : ((modN n : Nat) : Int) = n % 65521 := by unfold modN; omega
  by_cases h0 : 0 ≤ n
  · left
    rw [if_pos h0] at h
    rw [hm, h]
    exact ⟨rfl, by omega⟩
  · rw [if_neg h0] at h
    by_cases h1 : n % 65521 = 0
    · left
      have h2 : n.tmod 65521 = 0 := by omega
      rw [hm, h2, h1]; exact ⟨rfl, by omega⟩
    · right
      have h2 : n % 65521 = n.tmod 65521 + 65521 := by omega
      rw [hm, h2, Int.add_mul]
      exact ⟨rfl, by omega⟩
theorem prod_bound (n o : Int) (h0 : 0 ≤ o) (h1 : o ≤ 255) : -16707600 ≤ n.tmod 65521 * o ∧ n.tmod 65521 * o ≤ 16707600 := by
  have h := tmod_cases n
  have hb : -65520 ≤ n.tmod 65521 ∧ n.tmod 65521 ≤ 65520 := by
    rw [h]; split <;> omega
  constructor
  · have := Int.mul_le_mul_of_nonneg_right hb.1 h0
    omega
  · have := Int.mul_le_mul_of_nonneg_right hb.2 h0
    omega

end Go.Proofs.Ythidmgnfdikppaa.M

/- Plain mathematics of layer 2, continued: sums without the modulus, windows, and texts that differ. No Go here. -/
namespace Go.Proofs.Ythidmgnfdikppaa.M
set_option linter.unusedVariables false

/-- The sum of the bytes, and the sum of its steps. -/
def tot : List UInt8 → Nat
  | [] => 0
  | x :: l => x.toNat + tot l
def wgt : List UInt8 → Nat
  | [] => 0
  | x :: l => (l.length + 1) * x.toNat + wgt l

theorem runP_eq (l : List UInt8) : ∀ p : Nat × Nat, (runP p l).1 % 65521 = (p.1 + tot l) % 65521 ∧ (runP p l).2 % 65521 = (p.2 + l.length * p.1 + wgt l) % 65521 := by
  induction l with
  | nil => intro p; simp [runP, tot, wgt]
  | cons x l ih =>
    intro p
    have h := ih (stepP p x)
    have e : runP p (x :: l) = runP (stepP p x) l := rfl
    rw [e]
    have h1 : (stepP p x).1 = (p.1 + x.toNat) % 65521 := rfl
    have h2 : (stepP p x).2 = (p.2 + (p.1 + x.toNat) % 65521) % 65521 := rfl
    rw [h1, h2] at h
    refine ⟨?_, ?_⟩
    · rw [h.1]; simp only [tot]; omega
    · rw [h.2]
      simp only [wgt, List.length_cons]
      have e1 : (l.length * ((p.1 + x.toNat) % 65521)) % 65521 = (l.length * (p.1 + x.toNat)) % 65521 := by
        rw [Nat.mul_mod, Nat.mod_mod, ← Nat.mul_mod]
      rw [Nat.mul_add] at e1
      rw [Nat.add_mul, Nat.add_mul, Nat.one_mul, Nat.one_mul]
      generalize l.length * ((p.1 + x.toNat) % 65521) = z at *
      generalize l.length * p.1 = u at *
      generalize l.length * x.toNat = v at *
      omega

theorem parts1 : partsP 1 = (1, 0) := by decide
/-- A text's parts. -/
def sp (l : List UInt8) : Nat × Nat := runP (1, 0) l
theorem sumP_sp (l : List UInt8) : sumP l = wholeP (sp l) := by
  unfold sumP moreP sp
  rw [parts1]
theorem sp_lt (l : List UInt8) : (sp l).1 < 65521 ∧ (sp l).2 < 65521 := runP_lt (1, 0) (by decide) l
theorem sp_eq (l : List UInt8) : (sp l).1 = (1 + tot l) % 65521 ∧ (sp l).2 = (l.length + wgt l) % 65521 := by
  have h := runP_eq l (1, 0)
  have h2 := sp_lt l
  unfold sp at *
  simp only [Nat.mul_one, Nat.zero_add] at h
  omega
theorem sumP_inj (a b : List UInt8) (h : sumP a = sumP b) : (sp a).1 = (sp b).1 ∧ (sp a).2 = (sp b).2 := by
  rw [sumP_sp, sumP_sp] at h
  have h1 := sp_lt a
  have h2 := sp_lt b
  simp only [wholeP] at h
  omega
theorem sumP_lt (l : List UInt8) : sumP l < 4294967296 := moreP_lt 1 l

theorem tot_app (a b : List UInt8) : tot (a ++ b) = tot a + tot b := by
  induction a with
  | nil => simp [tot]
  | cons x a ih => simp only [List.cons_append, tot, ih]; omega
theorem wgt_app (a b : List UInt8) : wgt (a ++ b) = wgt a + b.length * tot a + wgt b := by
  induction a with
  | nil => simp [wgt, tot]
  | cons x a ih =>
    simp only [List.cons_append, wgt, tot, ih, List.length_append, Nat.add_mul, Nat.mul_add, Nat.one_mul]
    omega

/-- P2.2: a window that is moved. -/
theorem roll_window (x y : UInt8) (m : List UInt8) (n : Nat) (hn : n = m.length + 1) : rollP (sumP (x :: m)) (modN n) x.toNat y.toNat = sumP (m ++ [y]) := by
  have hp : partsP (sumP (x :: m)) = sp (x :: m) := by rw [sumP_sp, partsP_whole _ (sp_lt _)]
  have h0 := sp_eq (x :: m)
  have h1 := sp_eq (m ++ [y])
  have hl := sp_lt (x :: m)
  have ht : tot (m ++ [y]) = tot m + y.toNat := by rw [tot_app]; simp [tot]
  have hw : wgt (m ++ [y]) = wgt m + tot m + y.toNat := by rw [wgt_app]; simp [wgt]
  have hx := x.toNat_lt
  have hy := y.toNat_lt
  have hmn : modN n = n % 65521 := by unfold modN; omega
  have e1 : (n % 65521 * x.toNat) % 65521 = (n * x.toNat) % 65521 := by rw [Nat.mul_mod, Nat.mod_mod, ← Nat.mul_mod]
  unfold rollP
  rw [hp, sumP_sp (m ++ [y]), hmn]
  simp only
  rw [e1]
  have hlen : (m ++ [y]).length = m.length + 1 := by simp
  rw [ht, hlen, hw] at h1
  simp only [tot, wgt, List.length_cons] at h0
  subst hn
  rw [Nat.add_mul, Nat.one_mul] at *
  have ha : ((sp (x :: m)).1 + 65521 - x.toNat + y.toNat) % 65521 = (sp (m ++ [y])).1 := by
    rw [h1.1, h0.1]; omega
  rw [ha]
  have hb : ((sp (x :: m)).2 + 65521 - (m.length * x.toNat + x.toNat) % 65521 + (sp (m ++ [y])).1 + 65521 - 1) % 65521 = (sp (m ++ [y])).2 := by
    rw [h1.2, h0.2, h1.1]
    generalize m.length * x.toNat = z
    omega
  rw [hb]

/-- One byte that is another one. -/
theorem tot_set (l : List UInt8) (k : Nat) (h : k < l.length) (v : UInt8) : tot (l.set k v) + l[k].toNat = tot l + v.toNat := by
  induction l generalizing k with
  | nil => simp at h
  | cons x l ih =>
    rcases k with _ | k
    · simp only [List.set_cons_zero, tot, List.getElem_cons_zero]; omega
    · have := ih k (by simpa using h)
      simp only [List.set_cons_succ, tot, List.getElem_cons_succ]; omega
theorem sum_one (l : List UInt8) (k : Nat) (h : k < l.length) (v : UInt8) : sumP (l.set k v) = sumP l ↔ v = l[k] := by
  constructor
  · intro e
    have h1 := (sumP_inj _ _ e).1
    rw [(sp_eq _).1, (sp_eq _).1] at h1
    have h2 := tot_set l k h v
    have h3 := v.toNat_lt
    have h4 := l[k].toNat_lt
    exact u8_ext (by omega)
  · intro e
    rw [e, List.set_getElem_self]

/-- 65521 is prime to what is below 256. -/
theorem coprime_small : ∀ d : Fin 256, d.val ≠ 0 → Nat.Coprime 65521 d.val := by decide +kernel
theorem mod_mul (m d : Nat) (hm : m < 65521) (hd : d < 256) (h : (m * d) % 65521 = 0) : m = 0 ∨ d = 0 := by
  by_cases h0 : d = 0
  · exact .inr h0
  · left
    have hc := coprime_small ⟨d, hd⟩ h0
    have h1 : 65521 ∣ m * d := Nat.dvd_of_mod_eq_zero h
    have h2 : 65521 ∣ m := Nat.Coprime.dvd_of_dvd_mul_right hc h1
    exact Nat.eq_zero_of_dvd_of_lt h2 hm

/-- Weights of a byte by its place. -/
theorem wgt_set (l : List UInt8) (k : Nat) (h : k < l.length) (v : UInt8) : wgt (l.set k v) + (l.length - k) * l[k].toNat = wgt l + (l.length - k) * v.toNat := by
  induction l generalizing k with
  | nil => simp at h
  | cons x l ih =>
    rcases k with _ | k
    · simp only [List.set_cons_zero, wgt, List.getElem_cons_zero, List.length_cons, Nat.sub_zero]; omega
    · have := ih k (by simpa using h)
      simp only [List.set_cons_succ, wgt, List.getElem_cons_succ, List.length_cons, List.length_set]
      rw [show l.length + 1 - (k + 1) = l.length - k from by omega]
      omega

/-- Two bytes that change places. -/
theorem sum_swap (l : List UInt8) (i k : Nat) (hi : i < l.length) (hk : k < l.length) (hlen : l.length ≤ 50000) :
    sumP ((l.set i l[k]).set k l[i]) = sumP l ↔ l[i] = l[k] := by
  constructor
  · intro e
    by_cases hik : i = k
    · subst hik; rfl
    · have h1 := (sumP_inj _ _ e).2
      rw [(sp_eq _).2, (sp_eq _).2] at h1
      simp only [List.length_set] at h1
      have w1 := wgt_set l i hi l[k]
      have w2 := wgt_set (l.set i l[k]) k (by simpa using hk) l[i]
      rw [List.getElem_set_ne hik] at w2
      simp only [List.length_set] at w2
      have hx := l[i].toNat_lt
      have hy := l[k].toNat_lt
      have key : ∀ (m d : Nat), m < 65521 → d < 256 → (m * d) % 65521 = 0 → m ≠ 0 → d = 0 := fun m d a b c e => (mod_mul m d a b c).resolve_left e
      apply u8_ext
      generalize l[i].toNat = x at *
      generalize l[k].toNat = y at *
      generalize wgt ((l.set i l[k]).set k l[i]) = W2 at *
      generalize wgt (l.set i l[k]) = W1 at *
      generalize wgt l = W at *
      rcases Nat.lt_or_gt_of_ne hik with hlt | hlt
      · obtain ⟨m, rfl⟩ : ∃ m, k = i + m := ⟨k - i, by omega⟩
        obtain ⟨c, hc⟩ : ∃ c, l.length - (i + m) = c := ⟨_, rfl⟩
        rw [show l.length - i = c + m from by omega, Nat.add_mul, Nat.add_mul] at w1
        rw [hc] at w2
        rcases Nat.le_total x y with hxy | hxy
        · obtain ⟨d, rfl⟩ : ∃ d, y = x + d := ⟨y - x, by omega⟩
          rw [Nat.mul_add, Nat.mul_add] at *
          have := key m d (by omega) (by omega) (by omega) (by omega)
          omega
        · obtain ⟨d, rfl⟩ : ∃ d, x = y + d := ⟨x - y, by omega⟩
          rw [Nat.mul_add, Nat.mul_add] at *
          have := key m d (by omega) (by omega) (by omega) (by omega)
          omega
      · obtain ⟨m, rfl⟩ : ∃ m, i = k + m := ⟨i - k, by omega⟩
        obtain ⟨c, hc⟩ : ∃ c, l.length - (k + m) = c := ⟨_, rfl⟩
        rw [hc] at w1
        rw [show l.length - k = c + m from by omega, Nat.add_mul, Nat.add_mul] at w2
        rcases Nat.le_total x y with hxy | hxy
        · obtain ⟨d, rfl⟩ : ∃ d, y = x + d := ⟨y - x, by omega⟩
          rw [Nat.mul_add, Nat.mul_add] at *
          have := key m d (by omega) (by omega) (by omega) (by omega)
          omega
        · obtain ⟨d, rfl⟩ : ∃ d, x = y + d := ⟨x - y, by omega⟩
          rw [Nat.mul_add, Nat.mul_add] at *
          have := key m d (by omega) (by omega) (by omega) (by omega)
          omega
  · intro e
    have e1 : l.set i l[k] = l := by rw [← e]; exact List.set_getElem_self _
    have e2 : (l.set i l[k]).set k l[i] = l := by rw [e1, e]; exact List.set_getElem_self _
    rw [e2]

theorem big4_length (n : Nat) : (big 4 n).length = 4 := big_length 4 n
theorem val8_big4 (n : Nat) (h : n < 4294967296) : val8 (big 4 n) = n := by rw [val8_big]; omega
theorem big4_inj (a b : Nat) (ha : a < 4294967296) (hb : b < 4294967296) : big 4 a = big 4 b ↔ a = b :=
  ⟨fun h => by rw [← val8_big4 a ha, ← val8_big4 b hb, h], fun h => by rw [h]⟩
theorem less_big4 (a b : Nat) (ha : a < 4294967296) (hb : b < 4294967296) : Op.bytesLess (big 4 a) (big 4 b) = decide (a < b) := by
  rw [less_val8 _ _ (by rw [big4_length, big4_length]), val8_big4 a ha, val8_big4 b hb]

end Go.Proofs.Ythidmgnfdikppaa.M

/- Layer 2: the document's answers (spoorref02), each function by a contract. -/
namespace Go.Proofs.Ythidmgnfdikppaa
set_option linter.unusedVariables false
open Go Go.RowKit
attribute [local go_sem ↓] run_index_S
attribute [local go_sem] S_append S_extract

theorem refParts_any (s : Nat) (hs : s < 4294967296) (w : World) :
    Calls Try.prog 152 #[.int .u32 s] w fun e w' => e = .returned (.tuple #[.int .i64 (M.partsP s).1, .int .i64 (M.partsP s).2]) ∧ w = w' := by
  have e1 : (M.partsP s).1 = s % 65536 % 65521 := rfl
  have e2 : (M.partsP s).2 = s / 65536 % 65521 := rfl
  rw [e1, e2]
  clear e1 e2
  go_enter Try.func152, Try.ntmps152
  go_wp2_with fail
  go_ret2
  exact ⟨rfl, rfl⟩

theorem refWhole_any (a b : Nat) (ha : a < 65521) (hb : b < 65521) (w : World) :
    Calls Try.prog 153 #[.int .i64 a, .int .i64 b] w fun e w' => e = .returned (.int .u32 (M.wholeP (a, b))) ∧ w = w' := by
  go_enter Try.func153, Try.ntmps153
  go_wp2_with fail
  go_ret
  exact ⟨rfl, rfl⟩

theorem step_next (p : Nat × Nat) (l : List UInt8) (k : Nat) (h : k < l.length) :
    ((M.runP p (l.take k)).1 + B l k) % 65521 = (M.runP p (l.take (k + 1))).1 ∧ ((M.runP p (l.take k)).2 + ((M.runP p (l.take k)).1 + B l k) % 65521) % 65521 = ((M.runP p (l.take (k + 1))).2 : Int) := by
  rw [M.runP_take p l k h, B_at l k h]
  simp only [M.stepP]
  omega

set_option maxHeartbeats 400000 in
theorem refMore_any (s : Nat) (hs : s < 4294967296) (l : List UInt8) (hl : l.length ≤ 9223372036854775807) (w : World) :
    Calls Try.prog 136 #[.int .u32 s, .string (S l)] w fun e w' => e = .returned (.int .u32 (M.moreP s l)) ∧ w = w' := by
  have hp := M.partsP_lt s
  go_enter Try.func136, Try.ntmps136
  go_wp2_with (go_at_call 152; refine (refParts_any s hs _).mono ?_; rintro e w' ⟨rfl, rfl⟩)
  go_loop [5, 6, 7] (fun a b i => ∃ k : Nat, k ≤ l.length ∧ a = .int .i64 (M.runP (M.partsP s) (l.take k)).1 ∧ b = .int .i64 (M.runP (M.partsP s) (l.take k)).2 ∧ i = .int .i64 k) (fun _ _ i => l.length - (intOf i).toNat)
  case atStart => exact ⟨0, Nat.zero_le _, rfl, rfl, rfl⟩
  case round =>
    obtain ⟨k, hk, rfl, rfl, rfl⟩ := hrel
    have hq := M.runP_lt (M.partsP s) hp (l.take k)
    by_cases hkl : k < l.length
    · have hst := step_next (M.partsP s) l k hkl
      have hbr := B_range l k
      generalize M.runP (M.partsP s) (l.take k) = q at *
      have HST := Lib.hid hst
      clear hst
      go_wp2_with fail
      go_round
      case rel => exact ⟨k + 1, by omega, by rw [← HST.out.1], by rw [← HST.out.2], by go_num⟩
      case measure => simp [intOf]; omega
    · obtain rfl : k = l.length := by omega
      have ht : M.runP (M.partsP s) (l.take l.length) = M.runP (M.partsP s) l := by rw [List.take_length]
      rw [ht] at hq ⊢
      clear ht
      obtain ⟨q, hqq⟩ : ∃ q, q = M.runP (M.partsP s) l := ⟨_, rfl⟩
      rw [← hqq] at hq ⊢
      have HQ := Lib.hid hqq
      clear hqq
      go_wp2_with (go_at_call 153; refine (refWhole_any _ _ hq.1 hq.2 _).mono ?_; rintro e w' ⟨rfl, rfl⟩)
      go_ret
      exact ⟨ret_int (by rw [HQ.out]; rfl), rfl⟩

theorem refSum_any (l : List UInt8) (hl : l.length ≤ 9223372036854775807) (w : World) :
    Calls Try.prog 112 #[.string (S l)] w fun e w' => e = .returned (.int .u32 (M.sumP l)) ∧ w = w' := by
  have h1 : ∀ W, Calls Try.prog 136 #[.int .u32 1, .string (S l)] W fun e w' => e = .returned (.int .u32 (M.moreP 1 l)) ∧ W = w' := fun W => refMore_any 1 (by decide) l hl W
  have H1 := Lib.hid h1
  clear h1
  go_enter Try.func112, Try.ntmps112
  go_wp2_with fail
  with_reducible refine (H1.out _).mono ?_
  rintro e w3 ⟨rfl, rfl⟩
  go_wp2_with fail
  go_ret
  exact ⟨rfl, rfl⟩

end Go.Proofs.Ythidmgnfdikppaa

/- Layer 2: the program's functions (sums), each by a contract. -/
namespace Go.Proofs.Ythidmgnfdikppaa
set_option linter.unusedVariables false
open Go Go.RowKit
attribute [local go_sem ↓] run_index_S
attribute [local go_sem] S_append S_extract

theorem below_any (n : Int) (w : World) (h0 : 0 ≤ n) (h1 : n < 131042) :
    Calls Try.prog 157 #[.int .u32 n] w fun e w' => e = .returned (.int .u32 (n % 65521)) ∧ w = w' := by
  by_cases h : 65521 ≤ n
  · go_enter Try.func157, Try.ntmps157
    go_wp2_with fail
    go_ret
    exact ⟨ret_int (by omega), rfl⟩
  · go_enter Try.func157, Try.ntmps157
    go_wp2_with fail
    go_ret
    exact ⟨ret_int (by omega), rfl⟩

/-- The block of a sum's parts. -/
def PartsAt (w : World) (b : Nat) (p : Nat × Nat) : Prop := w.heap[b]? = some (.cells #[.int .u32 p.1, .int .u32 p.2] 181 (0, 0))

set_option maxHeartbeats 400000 in
theorem add_any (b : Nat) (p : Nat × Nat) (hp : p.1 < 65521 ∧ p.2 < 65521) (x : UInt8) (w : World) (hw : PartsAt w b p) :
    Calls Try.prog 150 #[.pointer (some ⟨b, 0, none⟩), .int .u8 x.toNat] w fun e w' => e = .returned (.tuple #[]) ∧ PartsAt w' b (M.stepP p x) ∧ Below b w w' := by
  obtain ⟨a, c⟩ := p
  have hx := x.toNat_lt
  simp only at hp
  unfold PartsAt at hw
  have h0 : w.cell? ⟨b, 0, none⟩ = some (.int .u32 a) := by simp [World.cell?, hw]
  have h1 : w.cell? ⟨b, 1, none⟩ = some (.int .u32 c) := by simp [World.cell?, hw]
  have f0 : w.frozen? ⟨b, 0, none⟩ = false := by simp [World.frozen?, hw]
  have f1 : w.frozen? ⟨b, 1, none⟩ = false := by simp [World.frozen?, hw]
  have HW := Lib.hid hw
  clear hw
  go_enter Try.func150, Try.ntmps150
  obtain ⟨a', ha'⟩ : ∃ a' : Nat, a' = (a + x.toNat) % 65521 := ⟨_, rfl⟩
  have hm : ((a : Int) + (x.toNat : Int)) % 65521 = (a' : Int) := by omega
  have ha'lt : a' < 65521 := by omega
  have HA := Lib.hid ha'
  clear ha'
  have hw1 : PartsAt (w.setCell ⟨b, 0, none⟩ (.int .u32 a')) b (a', c) := by
    unfold PartsAt
    rw [heap_setCell_same w b 0 _ _ _ HW.out]; simp
  have hbw1 : Below b w (w.setCell ⟨b, 0, none⟩ (.int .u32 a')) := (Below.refl b w).setCell (p := ⟨b, 0, none⟩) (Nat.le_refl b) _
  go_wp2_with (go_at_call 157; refine (below_any _ _ (by omega) (by omega)).mono ?_; rintro e w' ⟨rfl, rfl⟩)
  generalize w.setCell ⟨b, 0, none⟩ (.int .u32 a') = w1 at *
  unfold PartsAt at hw1
  have g0 : w1.cell? ⟨b, 0, none⟩ = some (.int .u32 a') := by simp [World.cell?, hw1]
  have g1 : w1.cell? ⟨b, 1, none⟩ = some (.int .u32 c) := by simp [World.cell?, hw1]
  have e1 : w1.frozen? ⟨b, 1, none⟩ = false := by simp [World.frozen?, hw1]
  have HW1 := Lib.hid hw1
  clear hw1 h0 h1 f0 f1 hm
  have ew : IntKind.u32.wrap ((c : Int) + (a' : Int)) = (c : Int) + (a' : Int) := IntWalk.u32_in _ (by omega)
  go_region_with (go_at_call 157; refine (below_any _ _ (by omega) (by omega)).mono ?_; rintro e w' ⟨rfl, rfl⟩)
  all_goals go_wp2_with fail
  all_goals
    go_end0
    refine ⟨rfl, ?_, (hbw1.setCell (p := ⟨b, 1, none⟩) (Nat.le_refl b) _).drew⟩
    show (w1.setCell _ _).heap[b]? = _
    rw [heap_setCell_same w1 b 1 _ _ _ HW1.out]
    simp only [M.stepP, ← HA.out]
    rfl

theorem wraps_u32 : ∀ n : Int, 0 ≤ n → n < 2 ^ 32 → IntKind.u32.wrap n = n := fun n h0 h1 => IntWalk.u32_in n (by omega)
theorem and16 (s : Nat) (hs : s < 4294967296) : bits .and .u32 (s : Int) 65535 = ((s % 65536 : Nat) : Int) := by
  rw [show (65535 : Int) = 2 ^ 16 - 1 from rfl, bits_mask .u32 32 (by decide) wraps_u32 16 (by decide) _ (by omega) (by omega)]
  rfl
theorem join16 (c a : Nat) (hc : c < 65536) (ha : a < 65536) : bits .or .u32 ((c : Int) * 65536) (a : Int) = ((c * 65536 + a : Nat) : Int) := by
  rw [bits_join .u32 32 (by decide) wraps_u32 16 _ _ (by omega) (by omega) (by omega) (by omega) (by omega) (by omega)]
  omega

set_option maxHeartbeats 400000 in
theorem split_any (s : Nat) (hs : s < 4294967296) (w : World) :
    Calls Try.prog 148 #[.int .u32 s] w fun e w' => e = .returned (.agg #[.int .u32 (M.partsP s).1, .int .u32 (M.partsP s).2]) ∧ w' = w.alloc (.cells #[.int .u32 (M.partsP s).1, .int .u32 (M.partsP s).2] 181) := by
  have ha := and16 s hs
  obtain ⟨x, hx⟩ : ∃ x, x = s % 65536 := ⟨_, rfl⟩
  rw [← hx] at ha
  have hx2 : x < 65536 := by omega
  have e1 : (M.partsP s).1 = x % 65521 := by simp [M.partsP, hx]
  have e2 : (M.partsP s).2 = s / 65536 % 65521 := rfl
  rw [e1, e2]
  have HX := Lib.hid hx
  clear hx e1 e2
  go_enter Try.func148, Try.ntmps148
  go_wp2_with fail
  exact bodyPost_ret (v := .agg #[.int .u32 (x % 65521 : Nat), .int .u32 (s / 65536 % 65521 : Nat)]) (by simp [results, Try.results148, go_sem]) rfl ⟨rfl, rfl⟩

set_option maxHeartbeats 400000 in
theorem sum_any (p : Nat × Nat) (hp : p.1 < 65521 ∧ p.2 < 65521) (w : World) :
    Calls Try.prog 151 #[.agg #[.int .u32 p.1, .int .u32 p.2]] w fun e w' => e = .returned (.int .u32 (M.wholeP p)) ∧ Below w.heap.size w w' := by
  obtain ⟨a, c⟩ := p
  simp only at hp
  have hj := join16 c a (by omega) (by omega)
  go_enter Try.func151, Try.ntmps151
  go_wp2_with fail
  go_ret
  exact ⟨rfl, (Below.refl _ _).alloc (Nat.le_refl _) _⟩

set_option maxHeartbeats 400000 in
theorem each_any (b : Nat) (p : Nat × Nat) (hp : p.1 < 65521 ∧ p.2 < 65521) (l : List UInt8) (hl : l.length ≤ 9223372036854775807) (w : World) (hw : PartsAt w b p) :
    Calls Try.prog 149 #[.string (S l), .func (Fn.func 150) #[.pointer (some ⟨b, 0, none⟩)] #[]] w fun e w' => e = .returned (.tuple #[]) ∧ PartsAt w' b (M.runP p l) ∧ Below b w w' := by
  go_enter Try.func149, Try.ntmps149
  go_wp2_with fail
  go_loopw [7] (fun i wr => ∃ k : Nat, k ≤ l.length ∧ i = .int .i64 k ∧ PartsAt wr b (M.runP p (l.take k)) ∧ Below b w wr) (fun i _ => l.length - (intOf i).toNat)
  case atStart => exact ⟨0, Nat.zero_le _, rfl, hw, Below.refl _ _⟩
  case round =>
    obtain ⟨k, hk, rfl, hpk, hb⟩ := hrel
    by_cases hkl : k < l.length
    · have hadd := add_any b (M.runP p (l.take k)) (M.runP_lt p hp _) l[k] wr hpk
      rw [← B_at l k hkl, ← M.runP_take p l k hkl] at hadd
      have HADD := Lib.hid hadd
      have HP := Lib.hid hpk
      have hbr := B_range l k
      clear hadd hpk
      go_wp2_with fail
      with_reducible refine HADD.out.mono ?_
      rintro e w2 ⟨rfl, hp2, hb2⟩
      have HP2 := Lib.hid hp2
      clear hp2
      go_wp2_with fail
      go_roundw
      case rel => exact ⟨k + 1, by omega, by go_num, HP2.out, hb.trans hb2⟩
      case measure => simp [intOf]; omega
    · obtain rfl : k = l.length := by omega
      rw [List.take_length] at hpk
      have HP := Lib.hid hpk
      clear hpk
      go_wp2_with fail
      go_end0
      exact ⟨rfl, HP.out, hb⟩

theorem partsAt_new (w : World) (p : Nat × Nat) : PartsAt (w.alloc (.cells #[.int .u32 p.1, .int .u32 p.2] 181)) w.heap.size p := heap_alloc_new w _

set_option maxHeartbeats 400000 in
theorem more_any (s : Nat) (hs : s < 4294967296) (l : List UInt8) (hl : l.length ≤ 9223372036854775807) (w : World) :
    Calls Try.prog 135 #[.int .u32 s, .string (S l)] w fun e w' => e = .returned (.int .u32 (M.moreP s l)) ∧ Below w.heap.size w w' := by
  have hp := M.partsP_lt s
  have hw1 : PartsAt ((w.alloc (.cells #[.int .u32 (M.partsP s).1, .int .u32 (M.partsP s).2] 181)).alloc (.cells #[.int .u32 (M.partsP s).1, .int .u32 (M.partsP s).2] 181)) (w.heap.size + 1) (M.partsP s) := by
    have := partsAt_new (w.alloc (.cells #[.int .u32 (M.partsP s).1, .int .u32 (M.partsP s).2] 181)) (M.partsP s)
    simpa using this
  have hb1 : Below w.heap.size w ((w.alloc (.cells #[.int .u32 (M.partsP s).1, .int .u32 (M.partsP s).2] 181)).alloc (.cells #[.int .u32 (M.partsP s).1, .int .u32 (M.partsP s).2] 181)) :=
    ((Below.refl _ _).alloc (Nat.le_refl _) _).alloc (by simp) _
  have HW1 := Lib.hid hw1
  clear hw1
  go_enter Try.func135, Try.ntmps135
  go_wp2_with (go_at_call 148; refine (split_any s hs _).mono ?_; rintro e w' ⟨rfl, rfl⟩)
  with_reducible refine (each_any (w.heap.size + 1) (M.partsP s) hp l hl _ HW1.out).mono ?_
  rintro e w2 ⟨rfl, hp2, hb2⟩
  have hq := M.runP_lt (M.partsP s) hp l
  obtain ⟨q, hqq⟩ : ∃ q, q = M.runP (M.partsP s) l := ⟨_, rfl⟩
  rw [← hqq] at hp2 hq
  unfold PartsAt at hp2
  have g0 : w2.cell? ⟨w.heap.size + 1, 0, none⟩ = some (.int .u32 q.1) := by simp [World.cell?, hp2]
  have g1 : w2.cell? ⟨w.heap.size + 1, 1, none⟩ = some (.int .u32 q.2) := by simp [World.cell?, hp2]
  have HQ := Lib.hid hqq
  have HP2 := Lib.hid hp2
  clear hqq hp2
  go_wp2_with fail
  with_reducible refine (sum_any q hq _).mono ?_
  rintro e w3 ⟨rfl, hb3⟩
  go_wp2_with fail
  go_ret
  exact ⟨ret_int (by rw [HQ.out]; rfl), below_step (hb1.trans (hb2.mono (by omega))) hb3⟩

theorem sum0_any (l : List UInt8) (hl : l.length ≤ 9223372036854775807) (w : World) :
    Calls Try.prog 109 #[.string (S l)] w fun e w' => e = .returned (.int .u32 (M.sumP l)) ∧ Below w.heap.size w w' := by
  have h1 : ∀ W, Calls Try.prog 135 #[.int .u32 1, .string (S l)] W fun e w' => e = .returned (.int .u32 (M.moreP 1 l)) ∧ Below W.heap.size W w' := fun W => more_any 1 (by decide) l hl W
  have H1 := Lib.hid h1
  clear h1
  go_enter Try.func109, Try.ntmps109
  go_wp2_with fail
  with_reducible refine (H1.out _).mono ?_
  rintro e w3 ⟨rfl, hb3⟩
  go_wp2_with fail
  go_ret
  exact ⟨rfl, hb3⟩

end Go.Proofs.Ythidmgnfdikppaa

/- Layer 2: Roll and Bytes, the program's and the document's, each by a contract. -/
namespace Go.Proofs.Ythidmgnfdikppaa
set_option linter.unusedVariables false
open Go Go.RowKit
attribute [local go_sem ↓] run_index_S
attribute [local go_sem] S_append S_extract

/-- What Roll comes to. -/
def rollS (s : Nat) (n o i : Int) : Nat := M.rollP s (M.modN n) o.toNat i.toNat

/-- The numbers on the way: a', and b' by the document's way and by the program's. -/
theorem roll_parts (s : Nat) (n o i : Int) (ho : 0 ≤ o ∧ o ≤ 255) (hi : 0 ≤ i ∧ i ≤ 255) :
    ∃ a b : Nat, a < 65521 ∧ b < 65521 ∧ rollS s n o i = M.wholeP (a, b) ∧ (((M.partsP s).1 : Int) + 65521 - o + i) % 65521 = (a : Int) ∧
      (((M.partsP s).2 : Int) + 65521 - (((M.modN n : Nat) : Int) * o) % 65521 + a + 65521 - 1) % 65521 = (b : Int) ∧
      ((((M.partsP s).2 : Int) - n.tmod 65521 * o + a - 1).tmod 65521 + 65521) % 65521 = (b : Int) := by
  have hp := M.partsP_lt s
  refine ⟨((M.partsP s).1 + 65521 - o.toNat + i.toNat) % 65521, ((M.partsP s).2 + 65521 - M.modN n * o.toNat % 65521 + ((M.partsP s).1 + 65521 - o.toNat + i.toNat) % 65521 + 65521 - 1) % 65521, by omega, by omega, rfl, by omega, ?_, ?_⟩
  · have e : ((M.modN n * o.toNat : Nat) : Int) = ((M.modN n : Nat) : Int) * o := by rw [Int.natCast_mul, Int.toNat_of_nonneg ho.1]
    rw [← e]
    omega
  · have e : ((M.modN n * o.toNat : Nat) : Int) = ((M.modN n : Nat) : Int) * o := by rw [Int.natCast_mul, Int.toNat_of_nonneg ho.1]
    have h3 := M.prod_cases n o
    have h4 := M.tmod_cases (((M.partsP s).2 : Int) - n.tmod 65521 * o + (((M.partsP s).1 + 65521 - o.toNat + i.toNat) % 65521 : Nat) - 1)
    rw [h4]
    rw [← e] at h3
    generalize M.modN n * o.toNat = z at *
    generalize n.tmod 65521 * o = y at *
    generalize ((M.partsP s).1 + 65521 - o.toNat + i.toNat) % 65521 = x at *
    split <;> rcases h3 with ⟨h3, _⟩ | ⟨h3, _⟩ <;> omega

theorem bytes_any (s : Nat) (hs : s < 4294967296) (w : World) :
    Calls Try.prog 108 #[.int .u32 s] w fun e w' => e = .returned (.string (S (M.big 4 s))) ∧ Below w.heap.size w w' := by
  have hd : (M.bigN s).drop 4 = M.big 4 s := rfl
  have hsl := run_piece_from (P := Try.prog) 9 Try.underlying9 (M.bigN s) 4 4 rfl (by rw [M.bigN_length]; omega)
  rw [hd] at hsl
  go_enter Try.func108, Try.ntmps108
  go_wp2_with (go_at_call 70; refine (big_nat s _ (by omega)).mono ?_; rintro e w' ⟨rfl, hb1⟩)
  go_ret
  exact ⟨rfl, by assumption⟩

theorem refBytes_any (s : Nat) (hs : s < 4294967296) (w : World) :
    Calls Try.prog 111 #[.int .u32 s] w fun e w' => e = .returned (.string (S (M.big 4 s))) ∧ Below w.heap.size w w' := by
  have kk := @run_string_four Try.prog 92 9 5 Try.underlying92 Try.underlying5 Try.underlying9
  have e : (⟨#[UInt8.ofNat (s / 16777216), UInt8.ofNat (s / 65536 % 256), UInt8.ofNat (s / 256 % 256), UInt8.ofNat (s % 256)]⟩ : ByteArray) = S (M.big 4 s) := by
    have e1 : s / 16777216 = s / 16777216 % 256 := by omega
    rw [e1]
    simp [M.big, M.u8]
  have HE := Lib.hid e
  clear e
  go_enter Try.func111, Try.ntmps111
  go_wp2_with fail
  go_ret
  exact ⟨ret_string HE.out, (Below.refl _ _).alloc (Nat.le_refl _) _⟩

end Go.Proofs.Ythidmgnfdikppaa

/- '[]byte(s)': a new row of the string's bytes; read, written, and made a string again. -/
namespace Go.Proofs.Ythidmgnfdikppaa
set_option linter.unusedVariables false
open Go Go.RowKit

/-- Block b begins with the bytes l, which may be written. -/
def BytesAt (w : World) (b : Nat) (e : TypeId) (l : List UInt8) : Prop :=
  ∃ (C : Array Value) (m : Nat), w.heap[b]? = some (.cells C e (m, m + 1)) ∧ C.size ≤ m ∧ l.length ≤ C.size ∧ ∀ j (h : j < l.length), C[j]? = some (.int .u8 (l[j].toNat : Int))

theorem bytes_conv {P : Program} (w : World) (src dst e : TypeId) (hs : P.underlying src = some .string) (hd : P.underlying dst = some (.slice e)) (he : P.underlying e = some (.int .u8)) (l : List UInt8) :
    ∃ (w1 : World) (cap : Nat), (convert src dst (.string ⟨l.toArray⟩)).run P w = .ok (.slice (some ⟨w.heap.size, 0, none⟩) l.length cap) w1 ∧ BytesAt w1 w.heap.size e l ∧ Below w.heap.size w w1 ∧ w1.heap.size = w.heap.size + 1 := by
  have hr := run_bytes_of_string (P := P) w src dst e ⟨l.toArray⟩ hs hd he
  have hsz : ((⟨l.toArray⟩ : ByteArray).size : Nat) = l.length := by simp [ByteArray.size]
  rw [hsz] at hr
  refine ⟨_, _, hr, ⟨_, _, heap_alloc_new w.drew _, Nat.le_refl _, ?_, ?_⟩, (Below.refl _ _).drew.alloc (Nat.le_refl _) _, by simp⟩
  · simp [bytesRow]
  · intro j h
    have := bytesRow_at ⟨l.toArray⟩ (grownCap w l.length 0 e) j (by simpa using h)
    rw [this]
    rfl

section
variable {w : World} {b : Nat} {e : TypeId} {l : List UInt8}
theorem BytesAt.cell (h : BytesAt w b e l) (j : Nat) (hj : j < l.length) : w.cell? ⟨b, j, none⟩ = some (.int .u8 (B l j)) := by
  obtain ⟨C, m, h1, h2, h3, h4⟩ := h
  have := h4 j hj
  rw [B_at l j hj]
  simp [World.cell?, h1, this]
theorem BytesAt.free (h : BytesAt w b e l) (j : Nat) (hj : j < l.length) : w.frozen? ⟨b, j, none⟩ = false := by
  obtain ⟨C, m, h1, h2, h3, h4⟩ := h
  simp [World.frozen?, h1]
  omega
theorem BytesAt.set (h : BytesAt w b e l) (j : Nat) (hj : j < l.length) (v : UInt8) : BytesAt (w.setCell ⟨b, j, none⟩ (.int .u8 (v.toNat : Int))) b e (l.set j v) := by
  obtain ⟨C, m, h1, h2, h3, h4⟩ := h
  refine ⟨C.setIfInBounds j (.int .u8 (v.toNat : Int)), m, ?_, by simpa using h2, by simpa using h3, ?_⟩
  · have hlt : b < w.heap.size := by
      rcases Nat.lt_or_ge b w.heap.size with h | h
      · exact h
      · simp [Array.getElem?_eq_none h] at h1
    have hget : w.heap[b] = .cells C e (m, m + 1) := by
      have := h1; rw [Array.getElem?_eq_getElem hlt] at this; exact Option.some.inj this
    simp [World.setCell, Array.getElem?_modify, h1]
  · intro i hi
    have hi' : i < l.length := by simpa using hi
    rw [Array.getElem?_setIfInBounds]
    by_cases hij : j = i
    · subst hij
      rw [if_pos rfl, if_pos (by omega)]
      simp
    · rw [if_neg hij, h4 i hi', List.getElem_set_ne hij]
theorem BytesAt.back {P : Program} (h : BytesAt w b e l) (src dst : TypeId) (hs : P.underlying src = some (.slice e)) (he : P.underlying e = some (.int .u8)) (hd : P.underlying dst = some .string) (cap : Nat) :
    (convert src dst (.slice (some ⟨b, 0, none⟩) l.length cap)).run P w = .ok (.string ⟨l.toArray⟩) w :=
  run_convert_bytes_back w src dst e ⟨b, 0, none⟩ cap l hs he hd (fun j hj => by rw [Addr.add_lit, Nat.zero_add, h.cell j hj, B_at l j hj])
theorem BytesAt.below {w' : World} {B' : Nat} (h : BytesAt w b e l) (hb : Below B' w w') (hlt : b < B') : BytesAt w' b e l := by
  obtain ⟨C, m, h1, h2, h3, h4⟩ := h
  exact ⟨C, m, by rw [hb.block b hlt]; exact h1, h2, h3, h4⟩
end

end Go.Proofs.Ythidmgnfdikppaa

/- Layer 2: the chapter's examples (spoorlaw02.does) come out true. -/
namespace Go.Proofs.Ythidmgnfdikppaa
set_option linter.unusedVariables false
open Go Go.RowKit

theorem sx1 : M.sumP [97, 98, 99] = 38600999 := by decide
theorem sx2 : M.sumP [87, 105, 107, 105, 112, 101, 100, 105, 97] = 300286872 := by decide
theorem sx3 : M.sumP [97, 98] = 19267780 := by decide
theorem sx4 : M.moreP 19267780 [99] = 38600999 := by decide
theorem sx5 : rollS 38600999 3 97 100 = 38994218 := by decide
theorem sx6 : M.sumP [98, 99, 100] = 38994218 := by decide
theorem sx7 : M.big 4 300286872 = [17, 230, 3, 152] := by decide

end Go.Proofs.Ythidmgnfdikppaa

/- Layer 2: the laws' walks: SumsOf, SumsJoin. -/
namespace Go.Proofs.Ythidmgnfdikppaa
set_option linter.unusedVariables false
open Go Go.RowKit
attribute [local go_sem ↓] run_index_S
attribute [local go_sem] S_append S_extract

theorem u32_range {n : Int} (h : (Lit.int .u32 n).wf = true) : 0 ≤ n ∧ n < 4294967296 := by
  simp [Lit.wf, IntKind.min, IntKind.max, IntKind.signed, IntKind.bits] at h
  omega
theorem u8_range {n : Int} (h : (Lit.int .u8 n).wf = true) : 0 ≤ n ∧ n ≤ 255 := by
  simp [Lit.wf, IntKind.min, IntKind.max, IntKind.signed, IntKind.bits] at h
  omega

end Go.Proofs.Ythidmgnfdikppaa

/- Layer 2: the laws' walks, continued: SumsWindow, SumsOne. -/
namespace Go.Proofs.Ythidmgnfdikppaa
set_option linter.unusedVariables false
open Go Go.RowKit
attribute [local go_sem ↓] run_index_S
attribute [local go_sem] S_append S_extract

theorem piece_cons (l : List UInt8) (i j : Nat) (h : i < j) (hj : j ≤ l.length) : piece l i j = l[i] :: piece l (i + 1) j := by
  unfold piece
  rw [List.drop_eq_getElem_cons (by omega), show j - i = (j - (i + 1)) + 1 from by omega, List.take_succ_cons]
theorem piece_snoc (l : List UInt8) (i j : Nat) (h : i ≤ j) (hj : j < l.length) : piece l i (j + 1) = piece l i j ++ [l[j]] := by
  unfold piece
  rw [show j + 1 - i = (j - i) + 1 from by omega, List.take_succ_eq_append_getElem (by simp; omega)]
  congr 1
  simp
  congr 1
  omega

/-- The next window's sum. -/
theorem window_step (l : List UInt8) (k i : Nat) (hk : 1 ≤ k) (hki : k ≤ i) (hi : i < l.length) :
    rollS (M.sumP (piece l (i - k) i)) (k : Int) (B l (i - k)) (B l i) = M.sumP (piece l (i - k + 1) (i + 1)) := by
  rw [piece_cons l (i - k) i (by omega) (by omega), piece_snoc l (i - k + 1) i (by omega) hi, B_at l _ (by omega), B_at l i hi]
  unfold rollS
  simp only [Int.toNat_natCast]
  refine M.roll_window _ _ _ k ?_
  rw [piece_length _ _ _ (by omega) (by omega)]
  omega

/-- A byte by another one's bits. -/
theorem xor_byte (x y : Int) (hx : 0 ≤ x ∧ x ≤ 255) (hy : 0 ≤ y ∧ y ≤ 255) : ∃ v : UInt8, bits .xor .u8 x y = (v.toNat : Int) ∧ ((v.toNat : Int) = x ↔ y = 0) := by
  have h := u8_xor x y hx.1 (by omega) hy.1 (by omega)
  have hlt : x.toNat ^^^ y.toNat < 2 ^ 8 := Nat.xor_lt_two_pow (by omega) (by omega)
  refine ⟨UInt8.ofNat (x.toNat ^^^ y.toNat), ?_, ?_⟩
  · rw [h, UInt8.toNat_ofNat']; congr 1; omega
  · rw [UInt8.toNat_ofNat', Nat.mod_eq_of_lt (by omega)]
    constructor
    · intro e
      have e1 : x.toNat ^^^ y.toNat = x.toNat := by omega
      have e2 : x.toNat ^^^ (x.toNat ^^^ y.toNat) = y.toNat := by rw [← Nat.xor_assoc, Nat.xor_self, Nat.zero_xor]
      rw [e1, Nat.xor_self] at e2
      omega
    · intro e
      subst e
      simp; omega

end Go.Proofs.Ythidmgnfdikppaa

/- Layer 2: the law's walk, SumsRoll: an array of two bytes comes in. -/
namespace Go.Proofs.Ythidmgnfdikppaa
set_option linter.unusedVariables false
open Go Go.RowKit
attribute [local go_sem ↓] run_index_S
attribute [local go_sem] S_append S_extract

theorem i64_range {n : Int} (h : (Lit.int .i64 n).wf = true) : -9223372036854775808 ≤ n ∧ n ≤ 9223372036854775807 := by
  simp [Lit.wf, IntKind.min, IntKind.max, IntKind.signed, IntKind.bits] at h
  omega

/-- Two bytes by value. -/
def U8x2 (v : Value) : Prop := ∃ x y : Int, v = .agg #[.int .u8 x, .int .u8 y] ∧ (0 ≤ x ∧ x ≤ 255) ∧ (0 ≤ y ∧ y ≤ 255)

end Go.Proofs.Ythidmgnfdikppaa
