/- Plain mathematics of layer 16: what a manifest says, edit by edit. -/
import Derived.Test.YtfcmjgcjmldpcaaKit
namespace Go.Proofs.Ytfcmjgcjmldpcaa
set_option linter.unusedVariables false
open Go Go.RowKit

namespace Ed
/-- A tablet, a state, an edit. -/
structure Tb where
  f : List UInt8
  l : List Int
structure St where
  T : List Tb
  log : Int
  next : Int
structure Ed where
  kind : Int
  at_ : Int
  file : Int
  fs : List Int
  key : List UInt8
def tb0 : Tb := ⟨[], []⟩
def first : St := ⟨[tb0], 1, 2⟩

/- The order of keys. -/
theorem less_irr : ∀ (a : List UInt8), Op.bytesLess a a = false
  | [] => rfl
  | x :: a => by simp [Op.bytesLess, less_irr a, UInt8.lt_irrefl]
theorem less_trans : ∀ (a b c : List UInt8), Op.bytesLess a b = true → Op.bytesLess b c = true → Op.bytesLess a c = true
  | _, [], _, h, _ => by cases ‹List UInt8› <;> simp [Op.bytesLess] at h
  | _, _ :: _, [], _, h => by simp [Op.bytesLess] at h
  | [], _ :: _, _ :: _, _, _ => rfl
  | x :: a, y :: b, z :: c, h, k => by
    simp only [Op.bytesLess, Bool.or_eq_true, Bool.and_eq_true, decide_eq_true_eq, beq_iff_eq] at *
    rcases h with h | ⟨rfl, h⟩
    · rcases k with k | ⟨rfl, k⟩
      · exact Or.inl (UInt8.lt_trans h k)
      · exact Or.inl h
    · rcases k with k | ⟨rfl, k⟩
      · exact Or.inl k
      · exact Or.inr ⟨rfl, less_trans a b c h k⟩
theorem less_flip : ∀ (a b : List UInt8), a ≠ b → Op.bytesLess b a = !Op.bytesLess a b
  | [], [], h => absurd rfl h
  | [], _ :: _, _ => rfl
  | _ :: _, [], _ => rfl
  | x :: a, y :: b, h => by
    by_cases e : x = y
    · subst e
      simp only [Op.bytesLess, UInt8.lt_irrefl, decide_false, Bool.false_or, beq_self_eq_true, Bool.true_and]
      exact less_flip a b (fun e => h (by rw [e]))
    · have e1 : (x == y) = false := by simpa using e
      have e2 : (y == x) = false := by simpa using fun h => e h.symm
      simp only [Op.bytesLess, e1, e2, Bool.false_and, Bool.or_false]
      by_cases h1 : x < y
      · have h2 : ¬ y < x := fun h2 => UInt8.lt_irrefl _ (UInt8.lt_trans h1 h2)
        simp [h1, h2]
      · have h2 : y < x := UInt8.lt_of_le_of_ne (UInt8.not_lt.1 h1) (fun h => e h.symm)
        simp [h1, h2]
theorem less_nil (a : List UInt8) : Op.bytesLess a [] = false := by cases a <;> rfl
theorem nil_less {a : List UInt8} (h : a ≠ []) : Op.bytesLess [] a = true := by
  cases a with
  | nil => exact absurd rfl h
  | cons x a => rfl

/- Which states may be. -/
/-- Numbers rise, from behind one on, below another one. -/
def up (last next : Int) : List Int → Prop
  | [] => True
  | n :: t => last < n ∧ n < next ∧ up n next t
theorem up_take {next : Int} : ∀ {l : List Int} {last : Int}, up last next l → ∀ n ∈ l, last < n ∧ n < next
  | [], _, _, n, hn => by simp at hn
  | x :: t, last, ⟨h1, h2, h3⟩, n, hn => by
    rcases List.mem_cons.1 hn with rfl | hn
    · exact ⟨h1, h2⟩
    · have := up_take h3 n hn; omega
/-- The last one of the first ones. -/
def lastOf (last : Int) (l : List Int) : Int := l.getLast?.getD last
theorem up_snoc {next : Int} : ∀ {l : List Int} {last n : Int}, up last next (l ++ [n]) ↔ up last next l ∧ lastOf last l < n ∧ n < next
  | [], last, n => by simp [up, lastOf]
  | x :: t, last, n => by
    simp only [List.cons_append, up, up_snoc (l := t)]
    have : lastOf x t = lastOf last (x :: t) := by
      unfold lastOf
      rw [List.getLast?_cons]; rfl
    rw [this]
    constructor <;> (intro h; simp only [and_assoc] at *; exact h)
theorem up_app {next : Int} {k : List Int} : ∀ {l : List Int} {last : Int}, up last next (l ++ k) → up last next l
  | [], _, _ => trivial
  | x :: t, _, ⟨h1, h2, h3⟩ => ⟨h1, h2, up_app h3⟩
theorem lastOf_snoc (last n : Int) (l : List Int) : lastOf last (l ++ [n]) = n := by simp [lastOf]
theorem take_snoc {α : Type} (L : List α) (k : Nat) (d : α) (h : k < L.length) : L.take (k + 1) = L.take k ++ [L.getD k d] := by
  have e : L.getD k d = L[k] := by simp [List.getD, h]
  rw [e, List.take_append_getElem]
theorem gD_mem {α : Type} {L : List α} {k : Nat} {d : α} (h : k < L.length) : L.getD k d ∈ L := by
  have e : L.getD k d = L[k] := by simp [List.getD, h]
  rw [e]; exact List.getElem_mem h
def rise (l : List Int) (next : Int) : Prop := up 0 next l ∧ l.length ≤ 256
/-- A tablet may be where it lies. -/
def okAt (T : List Tb) (next : Int) (i : Nat) : Prop :=
  (0 < i → Op.bytesLess (T.getD (i - 1) tb0).f (T.getD i tb0).f = true) ∧ (T.getD i tb0).f.length ≤ 64 ∧ rise (T.getD i tb0).l next
structure Ok (s : St) : Prop where
  n1 : 1 ≤ s.T.length
  n16 : s.T.length ≤ 16
  log1 : 1 ≤ s.log
  logN : s.log < s.next
  nextM : s.next ≤ 2147483647
  fst : (s.T.getD 0 tb0).f = []
  each : ∀ i, i < s.T.length → okAt s.T s.next i
theorem Ok.less {s : St} (h : Ok s) : ∀ (j i : Nat), i < j → j < s.T.length → Op.bytesLess (s.T.getD i tb0).f (s.T.getD j tb0).f = true
  | 0, i, hi, _ => by omega
  | j + 1, i, hi, hj => by
    have h1 := (h.each (j + 1) hj).1 (by omega)
    rw [show j + 1 - 1 = j from rfl] at h1
    by_cases e : i = j
    · subst e; exact h1
    · exact less_trans _ _ _ (h.less j i (by omega) (by omega)) h1
theorem ok_first : Ok first := ⟨by decide, by decide, by decide, by decide, by decide, rfl, fun i hi => by
  have : i = 0 := by simp [first] at hi; exact hi
  subst this
  exact ⟨fun h => absurd h (by omega), by decide, trivial, by decide⟩⟩

/- Where a key lies. -/
/-- How many tablets begin at a key, or ahead of it. -/
def below (T : List Tb) (key : List UInt8) : Nat := (T.takeWhile (fun t => !Op.bytesLess key t.f)).length
theorem below_le (T : List Tb) (key : List UInt8) : below T key ≤ T.length := by
  unfold below; exact (List.takeWhile_prefix _).length_le
def find (s : St) (key : List UInt8) : Int := (below s.T key : Int) - 1
def isIn (s : St) (key : List UInt8) (k : Nat) : Prop :=
  Op.bytesLess key (s.T.getD k tb0).f = false ∧ (k + 1 < s.T.length → Op.bytesLess key (s.T.getD (k + 1) tb0).f = true)
theorem below_lt {T : List Tb} {key : List UInt8} : ∀ i, i < below T key → Op.bytesLess key (T.getD i tb0).f = false := by
  induction T with
  | nil => intro i hi; simp [below] at hi
  | cons t T ih =>
    intro i hi
    unfold below at hi ih
    cases h : Op.bytesLess key t.f with
    | true => simp [h] at hi
    | false =>
      simp [h] at hi
      cases i with
      | zero => exact h
      | succ i => exact ih i (by simpa using hi)
theorem below_at {T : List Tb} {key : List UInt8} (h : below T key < T.length) : Op.bytesLess key (T.getD (below T key) tb0).f = true := by
  induction T with
  | nil => simp [below] at h
  | cons t T ih =>
    unfold below at h ih ⊢
    cases q : Op.bytesLess key t.f with
    | true => simp [q]
    | false =>
      simp [q] at h ⊢
      have := ih h
      simpa [List.getD] using this
theorem Ok.below_pos {s : St} (h : Ok s) (key : List UInt8) : 0 < below s.T key := by
  cases q : below s.T key with
  | succ n => omega
  | zero =>
    have h1 := h.n1
    have := below_at (T := s.T) (key := key) (by omega)
    rw [q, h.fst, less_nil] at this
    cases this
theorem less_false_trans {a b c : List UInt8} (h : Op.bytesLess a b = false) (k : Op.bytesLess c b = true ∨ c = b) : Op.bytesLess a c = false := by
  cases q : Op.bytesLess a c with
  | false => rfl
  | true =>
    rcases k with k | rfl
    · rw [less_trans _ _ _ q k] at h; cases h
    · rw [q] at h; cases h
/-- Each key lies in just one tablet's stretch: where it is found. -/
theorem Ok.isIn_iff {s : St} (h : Ok s) (key : List UInt8) (k : Nat) (hk : k < s.T.length) : isIn s key k ↔ (k : Int) = find s key := by
  have hp := h.below_pos key
  have hl := below_le s.T key
  unfold isIn find
  constructor
  · rintro ⟨h1, h2⟩
    have a1 : k < below s.T key := by
      rcases Nat.lt_or_ge k (below s.T key) with q | q
      · exact q
      · have hb := below_at (T := s.T) (key := key) (by omega)
        by_cases e : below s.T key = k
        · rw [e] at hb; rw [h1] at hb; cases hb
        · have := h.less k (below s.T key) (by omega) hk
          rw [less_trans _ _ _ hb this] at h1; cases h1
    have a2 : below s.T key ≤ k + 1 := by
      rcases Nat.lt_or_ge (k + 1) (below s.T key) with q | q
      · have := below_lt (T := s.T) (key := key) (k + 1) q
        rw [h2 (by omega)] at this; cases this
      · omega
    omega
  · intro e
    have e1 : below s.T key = k + 1 := by omega
    refine ⟨below_lt k (by omega), fun hk1 => ?_⟩
    have := below_at (T := s.T) (key := key) (by omega)
    rwa [e1] at this

/- What becomes of a state by an edit. -/
def setT (s : St) (k : Nat) (l : List Int) : List Tb := s.T.set k ⟨(s.T.getD k tb0).f, l⟩
def swapNext (next : Int) (fs : List Int) : Int := if fs = [] then next else max next (lastOf 0 fs + 1)
/-- A list that rises, with a number more; some lists' numbers. -/
def put (n : Int) : List Int → List Int
  | [] => [n]
  | x :: t => if n < x then n :: x :: t else if n = x then x :: t else x :: put n t
def uni (l : List Int) : List Int := l.foldl (fun a n => put n a) []
def edit (s : St) (e : Ed) : Option St :=
  if e.kind = 5 then (if s.next ≤ e.file then some ⟨s.T, e.file, e.file + 1⟩ else none)
  else if e.at_ < 0 ∨ (s.T.length : Int) ≤ e.at_ then none
  else if e.kind = 1 then (if s.next ≤ e.file then some ⟨setT s e.at_.toNat ((s.T.getD e.at_.toNat tb0).l ++ [e.file]), s.log, e.file + 1⟩ else none)
  else if e.kind = 2 then (if ∀ n ∈ e.fs, s.next ≤ n ∨ n ∈ (s.T.getD e.at_.toNat tb0).l then some ⟨setT s e.at_.toNat e.fs, s.log, swapNext s.next e.fs⟩ else none)
  else if e.kind = 3 then some ⟨s.T.take (e.at_.toNat + 1) ++ ⟨e.key, (s.T.getD e.at_.toNat tb0).l⟩ :: s.T.drop (e.at_.toNat + 1), s.log, s.next⟩
  else if e.kind = 4 then (if e.at_.toNat + 1 < s.T.length then some ⟨s.T.take e.at_.toNat ++ ⟨(s.T.getD e.at_.toNat tb0).f, uni ((s.T.getD e.at_.toNat tb0).l ++ (s.T.getD (e.at_.toNat + 1) tb0).l)⟩ :: s.T.drop (e.at_.toNat + 2), s.log, s.next⟩ else none)
  else none
open Classical in
noncomputable def apply (s : St) (e : Ed) : Option St :=
  if Ok s ∧ 0 ≤ e.file ∧ e.file < 2147483647 then (edit s e).bind (fun t => if Ok t then some t else none) else none
theorem apply_ok {s t : St} {e : Ed} (h : apply s e = some t) : Ok t := by
  unfold apply at h
  split at h
  · rw [Option.bind_eq_some_iff] at h
    obtain ⟨u, _, h⟩ := h
    split at h
    · injection h with h; subst h; assumption
    · cases h
  · cases h
theorem edit_next {s t : St} {e : Ed} (h : edit s e = some t) : s.next ≤ t.next ∧ (s.log < s.next → s.log ≤ t.log) := by
  unfold edit at h
  repeat' split at h
  all_goals first | cases h | skip
  · exact ⟨by simp only; omega, fun _ => by simp only; omega⟩
  · exact ⟨by simp only; omega, fun _ => Int.le_refl _⟩
  · exact ⟨by simp only [swapNext]; split <;> omega, fun _ => Int.le_refl _⟩
  · exact ⟨Int.le_refl _, fun _ => Int.le_refl _⟩
  · exact ⟨Int.le_refl _, fun _ => Int.le_refl _⟩
theorem apply_next {s t : St} {e : Ed} (h : apply s e = some t) : s.next ≤ t.next ∧ s.log ≤ t.log := by
  unfold apply at h
  split at h
  · rename_i hs
    rw [Option.bind_eq_some_iff] at h
    obtain ⟨u, hu, h⟩ := h
    split at h
    · injection h with h; subst h
      have := edit_next hu
      exact ⟨this.1, this.2 hs.1.logN⟩
    · cases h
  · cases h
end Ed

end Go.Proofs.Ytfcmjgcjmldpcaa
