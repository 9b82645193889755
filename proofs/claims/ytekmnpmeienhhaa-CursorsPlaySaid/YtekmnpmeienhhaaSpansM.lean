/- Plain mathematics of layer 3: spans, which may be, their bytes. No Go here. -/
import Derived.Test.YtekmnpmeienhhaaIntsM2
namespace Go.Proofs.Ytekmnpmeienhhaa.M
set_option linter.unusedVariables false

structure Sp where
  trace : Int
  id : Int
  parent : Int
  svc : List UInt8
  host : List UInt8
  start : Int
  dur : Int
  note : List UInt8

theorem Sp.ext' {x y : Sp} (h1 : x.trace = y.trace) (h2 : x.id = y.id) (h3 : x.parent = y.parent) (h4 : x.svc = y.svc) (h5 : x.host = y.host) (h6 : x.start = y.start) (h7 : x.dur = y.dur) (h8 : x.note = y.note) : x = y := by
  cases x; cases y; simp_all

/-- What a Go value of the type can hold. -/
structure Sp.fits (x : Sp) : Prop where
  t1 : -9223372036854775808 ≤ x.trace
  t2 : x.trace ≤ 9223372036854775807
  i1 : -9223372036854775808 ≤ x.id
  i2 : x.id ≤ 9223372036854775807
  p1 : -9223372036854775808 ≤ x.parent
  p2 : x.parent ≤ 9223372036854775807
  s1 : -9223372036854775808 ≤ x.start
  s2 : x.start ≤ 9223372036854775807
  d1 : -9223372036854775808 ≤ x.dur
  d2 : x.dur ≤ 9223372036854775807
  l1 : x.svc.length ≤ 140737488351232
  l2 : x.host.length ≤ 140737488351232
  l3 : x.note.length ≤ 140737488351232

def win (n a b : Int) : Bool := decide (a ≤ n) && decide (n ≤ b)
theorem win_true {n a b : Int} : win n a b = true ↔ a ≤ n ∧ n ≤ b := by simp [win]
theorem win_false {n a b : Int} : win n a b = false ↔ ¬ (a ≤ n ∧ n ≤ b) := by
  rw [← win_true]; simp

/-- P3.1: a name. -/
def byteOk (x : UInt8) : Bool := decide (33 ≤ x.toNat) && decide (x.toNat ≤ 126)
def nameB (l : List UInt8) : Bool := decide (1 ≤ l.length) && decide (l.length ≤ 12) && l.all byteOk
theorem nameB_true {l : List UInt8} (h1 : 1 ≤ l.length) (h2 : l.length ≤ 12) (h : ∀ j (hj : j < l.length), 33 ≤ l[j].toNat ∧ l[j].toNat ≤ 126) : nameB l = true := by
  simp only [nameB, Bool.and_eq_true, decide_eq_true_eq, List.all_eq_true]
  refine ⟨⟨h1, h2⟩, fun x hx => ?_⟩
  obtain ⟨j, hj, rfl⟩ := List.getElem_of_mem hx
  have := h j hj
  simp [byteOk]; omega
theorem nameB_short {l : List UInt8} (h : ¬ (1 ≤ l.length ∧ l.length ≤ 12)) : nameB l = false := by
  cases hn : nameB l with
  | false => rfl
  | true =>
    simp only [nameB, Bool.and_eq_true, decide_eq_true_eq] at hn
    exact absurd ⟨hn.1.1, hn.1.2⟩ h
theorem nameB_byte {l : List UInt8} (j : Nat) (hj : j < l.length) (h : ¬ (33 ≤ l[j].toNat ∧ l[j].toNat ≤ 126)) : nameB l = false := by
  cases hn : nameB l with
  | false => rfl
  | true =>
    simp only [nameB, Bool.and_eq_true, decide_eq_true_eq, List.all_eq_true] at hn
    have := hn.2 _ (List.getElem_mem hj)
    simp [byteOk] at this
    omega
theorem nameB_len {l : List UInt8} (h : nameB l = true) : 1 ≤ l.length ∧ l.length ≤ 12 := by
  simp only [nameB, Bool.and_eq_true, decide_eq_true_eq] at h
  exact ⟨h.1.1, h.1.2⟩

/-- P3.1 Check. -/
def mayB (x : Sp) : Bool := win x.trace 1 2147483647 && win x.id 1 2147483647 && win x.parent 0 2147483647 && nameB x.svc && nameB x.host && win x.start 0 1073741824 && win x.dur 0 1073741824 && decide (x.note.length ≤ 24)
theorem mayB_all {x : Sp} (h1 : win x.trace 1 2147483647 = true) (h2 : win x.id 1 2147483647 = true) (h3 : win x.parent 0 2147483647 = true) (h4 : nameB x.svc = true) (h5 : nameB x.host = true) (h6 : win x.start 0 1073741824 = true) (h7 : win x.dur 0 1073741824 = true) (h8 : x.note.length ≤ 24) : mayB x = true := by
  simp [mayB, h1, h2, h3, h4, h5, h6, h7, h8]
theorem mayB_parts {x : Sp} (h : mayB x = true) : (1 ≤ x.trace ∧ x.trace ≤ 2147483647) ∧ (1 ≤ x.id ∧ x.id ≤ 2147483647) ∧ (0 ≤ x.parent ∧ x.parent ≤ 2147483647) ∧ nameB x.svc = true ∧ nameB x.host = true ∧ (0 ≤ x.start ∧ x.start ≤ 1073741824) ∧ (0 ≤ x.dur ∧ x.dur ≤ 1073741824) ∧ x.note.length ≤ 24 := by
  simp only [mayB, Bool.and_eq_true, decide_eq_true_eq, win_true] at h
  obtain ⟨⟨⟨⟨⟨⟨⟨h1, h2⟩, h3⟩, h4⟩, h5⟩, h6⟩, h7⟩, h8⟩ := h
  exact ⟨h1, h2, h3, h4, h5, h6, h7, h8⟩
def errOf (b : Bool) : Int := if b then 0 else 2

/-- P3.1 Encode: of a span that may be. -/
def nums (x : Sp) : List Nat := [x.trace.toNat, x.id.toNat, x.parent.toNat, x.start.toNat, x.dur.toNat]
def txts (x : Sp) : List (List UInt8) := [x.svc, x.host, x.note]
def putT (t : List UInt8) : List UInt8 := putN t.length ++ t
def encN (ns : List Nat) : List UInt8 := ns.flatMap putN
def encT (ts : List (List UInt8)) : List UInt8 := ts.flatMap putT
def enc (x : Sp) : List UInt8 := encN (nums x) ++ encT (txts x)
theorem encN_snoc (ns : List Nat) (n : Nat) : encN (ns ++ [n]) = encN ns ++ putN n := by simp [encN]
theorem encT_snoc (ts : List (List UInt8)) (t : List UInt8) : encT (ts ++ [t]) = encT ts ++ putT t := by simp [encT]

/-- P3.2: numbers, then texts, that stand one behind the other. -/
def takeN : Nat → List UInt8 → Nat → Option (List Nat × Nat)
  | 0, _, a => some ([], a)
  | k + 1, l, a => match takeN k l a with
    | none => none
    | some (ns, b) => match gets l b with
      | none => none
      | some (n, c) => some (ns ++ [n], c)
def takeT : Nat → List UInt8 → Nat → Option (List (List UInt8) × Nat)
  | 0, _, a => some ([], a)
  | k + 1, l, a => match takeT k l a with
    | none => none
    | some (ts, b) => match getTs l b with
      | none => none
      | some (t, c) => some (ts ++ [t], c)
theorem takeN_none {k m : Nat} {l : List UInt8} {a : Nat} (h : takeN k l a = none) (hkm : k ≤ m) : takeN m l a = none := by
  induction m with
  | zero => obtain rfl : k = 0 := by omega
            exact h
  | succ m ih =>
    by_cases e : k = m + 1
    · subst e; exact h
    · simp [takeN, ih (by omega)]
theorem takeT_none {k m : Nat} {l : List UInt8} {a : Nat} (h : takeT k l a = none) (hkm : k ≤ m) : takeT m l a = none := by
  induction m with
  | zero => obtain rfl : k = 0 := by omega
            exact h
  | succ m ih =>
    by_cases e : k = m + 1
    · subst e; exact h
    · simp [takeT, ih (by omega)]
theorem takeN_len : ∀ {k : Nat} {l : List UInt8} {a : Nat} {ns : List Nat} {b : Nat}, takeN k l a = some (ns, b) → ns.length = k ∧ (a ≤ l.length → b ≤ l.length) ∧ (∀ n ∈ ns, n ≤ 9223372036854775807)
  | 0, l, a, ns, b, h => by
    simp only [takeN, Option.some.injEq, Prod.mk.injEq] at h
    obtain ⟨rfl, rfl⟩ := h
    simp
  | k + 1, l, a, ns, b, h => by
    simp only [takeN] at h
    split at h
    · simp at h
    · rename_i ms c hm
      split at h
      · simp at h
      · rename_i n d hg
        simp only [Option.some.injEq, Prod.mk.injEq] at h
        obtain ⟨rfl, rfl⟩ := h
        have ih := takeN_len hm
        have hb := gets_bounds hg
        refine ⟨by simp [ih.1], fun _ => hb.2.2.1, fun x hx => ?_⟩
        rw [List.mem_append] at hx
        rcases hx with hx | hx
        · exact ih.2.2 x hx
        · have : x = n := by simpa using hx
          rw [this]; exact hb.2.2.2.1
theorem takeT_len : ∀ {k : Nat} {l : List UInt8} {a : Nat} {ts : List (List UInt8)} {b : Nat}, takeT k l a = some (ts, b) → ts.length = k ∧ (∀ t ∈ ts, t.length ≤ l.length)
  | 0, l, a, ts, b, h => by
    simp only [takeT, Option.some.injEq, Prod.mk.injEq] at h
    obtain ⟨rfl, rfl⟩ := h
    simp
  | k + 1, l, a, ts, b, h => by
    simp only [takeT] at h
    split at h
    · simp at h
    · rename_i ms c hm
      split at h
      · simp at h
      · rename_i t d hg
        simp only [Option.some.injEq, Prod.mk.injEq] at h
        obtain ⟨rfl, rfl⟩ := h
        have ih := takeT_len hm
        refine ⟨by simp [ih.1], fun x hx => ?_⟩
        rw [List.mem_append] at hx
        rcases hx with hx | hx
        · exact ih.2 x hx
        · have e : x = t := by simpa using hx
          rw [e]
          unfold getTs at hg
          split at hg
          · split at hg
            · simp only [Option.some.injEq, Prod.mk.injEq] at hg
              rw [← hg.1, List.length_take, List.length_drop]
              omega
            · simp at hg
          · simp at hg
/-- Numbers and texts as a span. -/
def spOf (ns : List Nat) (ts : List (List UInt8)) : Sp :=
  { trace := ns.getD 0 0, id := ns.getD 1 0, parent := ns.getD 2 0, svc := ts.getD 0 [], host := ts.getD 1 [], start := ns.getD 3 0, dur := ns.getD 4 0, note := ts.getD 2 [] }
/-- P3.2 Decode. -/
def dec (l : List UInt8) : Option Sp :=
  match takeN 5 l 0 with
  | none => none
  | some (ns, a) => match takeT 3 l a with
    | none => none
    | some (ts, e) => if e = l.length ∧ mayB (spOf ns ts) = true then some (spOf ns ts) else none
/-- The span of nothing. -/
def sp0 : Sp := { trace := 0, id := 0, parent := 0, svc := [], host := [], start := 0, dur := 0, note := [] }
/-- P3.3 Less. -/
def lessB (x y : Sp) : Bool := decide (x.trace < y.trace) || (decide (x.trace = y.trace) && decide (x.id < y.id))

theorem encN_len (ns : List Nat) : (encN ns).length ≤ 10 * ns.length := by
  induction ns with
  | nil => simp [encN]
  | cons n ns ih =>
    have := (putN_length n).2
    simp only [encN, List.flatMap_cons, List.length_append, List.length_cons] at *
    omega
theorem encT_len (ts : List (List UInt8)) (h : ∀ t ∈ ts, t.length ≤ 24) : (encT ts).length ≤ 34 * ts.length := by
  induction ts with
  | nil => simp [encT]
  | cons t ts ih =>
    have h1 := (putN_length t.length).2
    have h2 := h t (by simp)
    have h3 := ih (fun u hu => h u (by simp [hu]))
    simp only [encT, putT, List.flatMap_cons, List.length_append, List.length_cons] at *
    omega
theorem nums_take (x : Sp) (k : Nat) (h : k < 5) : (nums x).take (k + 1) = (nums x).take k ++ [(nums x).getD k 0] := by
  have hl : k < (nums x).length := by simpa [nums] using h
  rw [List.take_succ_eq_append_getElem hl]
  simp [List.getD, List.getElem?_eq_getElem hl]
theorem txts_take (x : Sp) (k : Nat) (h : k < 3) : (txts x).take (k + 1) = (txts x).take k ++ [(txts x).getD k []] := by
  have hl : k < (txts x).length := by simpa [txts] using h
  rw [List.take_succ_eq_append_getElem hl]
  simp [List.getD, List.getElem?_eq_getElem hl]
theorem nums_le {x : Sp} (hx : x.fits) (k : Nat) : (nums x).getD k 0 ≤ 9223372036854775807 := by
  obtain ⟨t1, t2, i1, i2, p1, p2, s1, s2, d1, d2, _, _, _⟩ := hx
  match k with
  | 0 => simp [nums]; omega
  | 1 => simp [nums]; omega
  | 2 => simp [nums]; omega
  | 3 => simp [nums]; omega
  | 4 => simp [nums]; omega
  | k + 5 => simp [nums]
theorem txts_le {x : Sp} (h : mayB x = true) (k : Nat) : ((txts x).getD k []).length ≤ 24 := by
  have hp := mayB_parts h
  have h1 := nameB_len hp.2.2.2.1
  have h2 := nameB_len hp.2.2.2.2.1
  match k with
  | 0 => simp [txts]; omega
  | 1 => simp [txts]; omega
  | 2 => simp [txts]; omega
  | k + 3 => simp [txts]
theorem txts_mem {x : Sp} (h : mayB x = true) : ∀ t ∈ txts x, t.length ≤ 24 := by
  intro t ht
  obtain ⟨k, hk, rfl⟩ := List.getElem_of_mem ht
  have := txts_le h k
  simpa [List.getD, List.getElem?_eq_getElem hk] using this

end Go.Proofs.Ytekmnpmeienhhaa.M
