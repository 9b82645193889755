/- Plain mathematics of layer 8: keys of cells. No Go here. -/
import Derived.Test.YtjlddackpckmfaaZC
import Derived.Test.YtjlddackpckmfaaZA
namespace Go.Proofs.Ytjlddackpckmfaa.M
set_option linter.unusedVariables false

def idB (n : Int) : Bool := win n 1 2147483647
def spanK (t i : Nat) : List UInt8 := 115 :: (bigN t ++ bigN i)
def traceK (t : Nat) : List UInt8 := 115 :: bigN t
def aheadK (a b : List UInt8) : List UInt8 := 120 :: (a ++ 0 :: (b ++ [0]))
def indexK (a b : List UInt8) (st t i : Nat) : List UInt8 := aheadK a b ++ (bigN st ++ (bigN t ++ bigN i))
/-- P8.1 Of. -/
def okOf (t i : Int) : Bool := idB t && idB i
def ofK (t i : Int) : List UInt8 := if okOf t i then spanK t.toNat i.toNat else []
/-- P8.1 Index. -/
def idxK (x : Sp) : List UInt8 := if mayB x then indexK x.svc x.host x.start.toNat x.trace.toNat x.id.toNat else []
/-- P8.2. -/
def fromK (t : Int) : List UInt8 := if idB t then traceK t.toNat else []
def toK (t : Int) : List UInt8 := if idB t then traceK (t.toNat + 1) else []
/-- P8.3. -/
def okSt (a b : List UInt8) (f t : Int) : Bool := nameB a && nameB b && decide (max f 0 ≤ min t 1073741824)
def fromS (a b : List UInt8) (f t : Int) : List UInt8 := if okSt a b f t then aheadK a b ++ bigN (max f 0).toNat else []
def toS (a b : List UInt8) (f t : Int) : List UInt8 := if okSt a b f t then aheadK a b ++ bigN ((min t 1073741824).toNat + 1) else []

/-- What stands ahead of the first byte 0, and what behind it. -/
def cut0 : List UInt8 → List UInt8 × List UInt8
  | [] => ([], [])
  | x :: r => if x = 0 then ([], r) else (x :: (cut0 r).1, (cut0 r).2)
theorem cut0_none : ∀ (l : List UInt8), 0 ∉ l → cut0 l = (l, [])
  | [], _ => rfl
  | x :: r, h => by
    have hx : ¬ x = 0 := fun e => h (by rw [e]; exact List.mem_cons_self)
    have := cut0_none r (fun e => h (List.mem_cons_of_mem _ e))
    rw [cut0, if_neg hx, this]
theorem cut0_some : ∀ (a r : List UInt8), 0 ∉ a → cut0 (a ++ 0 :: r) = (a, r)
  | [], r, _ => by simp [cut0]
  | x :: a, r, h => by
    have hx : ¬ x = 0 := fun e => h (by rw [e]; exact List.mem_cons_self)
    have := cut0_some a r (fun e => h (List.mem_cons_of_mem _ e))
    rw [List.cons_append, cut0, if_neg hx, this]
theorem cut0_parts : ∀ (l : List UInt8), 0 ∈ l → l = (cut0 l).1 ++ 0 :: (cut0 l).2 ∧ 0 ∉ (cut0 l).1
  | [], h => by simp at h
  | x :: r, h => by
    by_cases hx : x = 0
    · subst hx; simp [cut0]
    · have hr : 0 ∈ r := by
        rcases List.mem_cons.1 h with e | e
        · exact absurd e.symm hx
        · exact e
      obtain ⟨h1, h2⟩ := cut0_parts r hr
      rw [cut0, if_neg hx]
      refine ⟨by rw [List.cons_append, ← h1], fun e => ?_⟩
      rcases List.mem_cons.1 e with e | e
      · exact hx e.symm
      · exact h2 e
theorem cut0_length (l : List UInt8) : (cut0 l).1.length ≤ l.length ∧ (cut0 l).2.length ≤ l.length := by
  by_cases h : 0 ∈ l
  · have h1 := (cut0_parts l h).1
    have : l.length = ((cut0 l).1 ++ 0 :: (cut0 l).2).length := by rw [← h1]
    simp at this
    omega
  · rw [cut0_none l h]; simp
theorem name_no0 {l : List UInt8} (h : nameB l = true) : 0 ∉ l := by
  intro h0
  simp only [nameB, Bool.and_eq_true, List.all_eq_true] at h
  have := h.2 0 h0
  simp [byteOk] at this

structure Pt where
  kind : Nat
  trace : Nat
  id : Nat
  start : Nat
  svc : List UInt8
  host : List UInt8
def numsP (kind : Nat) (r a b : List UInt8) (st : Nat) : Option Pt := match ofBigs r 0, ofBigs r 8 with
  | some t, some i => if r.length = 16 ∧ idB t = true ∧ idB i = true then some ⟨kind, t, i, st, a, b⟩ else none
  | _, _ => none
def idxP (rest : List UInt8) : Option Pt :=
  if nameB (cut0 rest).1 && nameB (cut0 (cut0 rest).2).1 then
    match ofBigs (cut0 (cut0 rest).2).2 0 with
    | some st => if st ≤ 1073741824 then numsP 120 ((cut0 (cut0 rest).2).2.drop 8) (cut0 rest).1 (cut0 (cut0 rest).2).1 st else none
    | none => none
  else none
/-- P8.4 Parse. -/
def parse : List UInt8 → Option Pt
  | [] => none
  | k :: rest => if k = 115 then numsP 115 rest [] [] 0 else if k = 120 then idxP rest else none
/-- P8.4 Row. -/
def rowK (key : List UInt8) : List UInt8 := match parse key with
  | none => []
  | some p => if p.kind = 115 then key.take 9 else key

theorem idB_true {n : Int} : idB n = true ↔ 1 ≤ n ∧ n ≤ 2147483647 := win_true
theorem ofBigs0 (a c : List UInt8) (n : Nat) (h : n ≤ 9223372036854775807) : ofBigs (bigN n ++ c) 0 = some n := by
  have := ofBigs_big [] c n h
  simpa using this
theorem numsP_of (kind t i : Nat) (ht : idB t = true) (hi : idB i = true) (a b : List UInt8) (st : Nat) : numsP kind (bigN t ++ bigN i) a b st = some ⟨kind, t, i, st, a, b⟩ := by
  have h1 := idB_true.1 ht
  have h2 := idB_true.1 hi
  have e1 : ofBigs (bigN t ++ bigN i) 0 = some t := ofBigs0 [] (bigN i) t (by omega)
  have e2 : ofBigs (bigN t ++ bigN i) 8 = some i := by
    have := ofBigs_big (bigN t) [] i (by omega)
    rw [bigN_length] at this
    simpa using this
  unfold numsP
  rw [e1, e2]
  simp [bigN_length, ht, hi]
theorem numsP_some {kind : Nat} {r a b : List UInt8} {st : Nat} {p : Pt} (h : numsP kind r a b st = some p) : ∃ t i : Nat, idB t = true ∧ idB i = true ∧ r = bigN t ++ bigN i ∧ p = ⟨kind, t, i, st, a, b⟩ := by
  unfold numsP at h
  split at h
  · rename_i t i h1 h2
    split at h
    · rename_i hc
      obtain ⟨hl, ht, hi⟩ := hc
      obtain ⟨_, _, _, b1⟩ := ofBigs_bounds h1
      obtain ⟨_, _, _, b2⟩ := ofBigs_bounds h2
      refine ⟨t, i, ht, hi, ?_, (Option.some.inj h).symm⟩
      rw [b1, b2]
      have e : r = r.take 8 ++ r.drop 8 := (List.take_append_drop 8 r).symm
      conv => lhs; rw [e]
      simp only [Int.toNat_zero, List.drop_zero]
      congr 1
      exact (List.take_of_length_le (by simp; omega)).symm
    · simp at h
  · simp at h
theorem parse_span (t i : Nat) (ht : idB t = true) (hi : idB i = true) : parse (spanK t i) = some ⟨115, t, i, 0, [], []⟩ := by
  rw [spanK, parse, if_pos rfl, numsP_of 115 t i ht hi]
theorem parse_index (a b : List UInt8) (ha : nameB a = true) (hb : nameB b = true) (st t i : Nat) (hs : st ≤ 1073741824) (ht : idB t = true) (hi : idB i = true) : parse (indexK a b st t i) = some ⟨120, t, i, st, a, b⟩ := by
  have e : indexK a b st t i = 120 :: (a ++ 0 :: (b ++ 0 :: (bigN st ++ (bigN t ++ bigN i)))) := by simp [indexK, aheadK]
  rw [e, parse, if_neg (by decide), if_pos rfl, idxP, cut0_some a _ (name_no0 ha)]
  simp only [cut0_some b _ (name_no0 hb), ha, hb, Bool.and_true, if_true, ofBigs0 [] (bigN t ++ bigN i) st (by omega), if_pos hs]
  have hd : (bigN st ++ (bigN t ++ bigN i)).drop 8 = bigN t ++ bigN i := by
    have := List.drop_left (l₁ := bigN st) (l₂ := bigN t ++ bigN i)
    rwa [bigN_length] at this
  rw [hd, numsP_of 120 t i ht hi]
theorem parse_some {key : List UInt8} {p : Pt} (h : parse key = some p) : idB p.trace = true ∧ idB p.id = true ∧ ((p.kind = 115 ∧ key = spanK p.trace p.id ∧ p.start = 0 ∧ p.svc = [] ∧ p.host = []) ∨ (p.kind = 120 ∧ p.start ≤ 1073741824 ∧ nameB p.svc = true ∧ nameB p.host = true ∧ key = indexK p.svc p.host p.start p.trace p.id)) := by
  match key with
  | [] => simp [parse] at h
  | k :: rest =>
    rw [parse] at h
    split at h
    · rename_i hk
      obtain ⟨t, i, ht, hi, hr, rfl⟩ := numsP_some h
      exact ⟨ht, hi, .inl ⟨rfl, by rw [hk, hr]; rfl, rfl, rfl, rfl⟩⟩
    · split at h
      · rename_i hk
        unfold idxP at h
        split at h
        · rename_i hn
          simp only [Bool.and_eq_true] at hn
          split at h
          · rename_i st hst
            split at h
            · rename_i hs
              obtain ⟨t, i, ht, hi, hr, rfl⟩ := numsP_some h
              obtain ⟨_, _, _, b1⟩ := ofBigs_bounds hst
              refine ⟨ht, hi, .inr ⟨rfl, hs, hn.1, hn.2, ?_⟩⟩
              have hl := (ofBigs_bounds hst).2.1
              have m2 : 0 ∈ (cut0 rest).2 := by
                by_cases m : 0 ∈ (cut0 rest).2
                · exact m
                · rw [cut0_none _ m] at hl; simp at hl
              have m1 : 0 ∈ rest := by
                by_cases m : 0 ∈ rest
                · exact m
                · rw [cut0_none _ m] at m2; simp at m2
              have p1 := (cut0_parts rest m1).1
              have p2 := (cut0_parts _ m2).1
              simp only [indexK, aheadK, List.cons_append, List.append_assoc, List.nil_append]
              rw [hk, ← hr, b1]
              simp only [Int.toNat_zero, List.drop_zero, List.take_append_drop]
              rw [← p2, ← p1]
            · simp at h
          · simp at h
        · simp at h
      · simp at h

end Go.Proofs.Ytjlddackpckmfaa.M
