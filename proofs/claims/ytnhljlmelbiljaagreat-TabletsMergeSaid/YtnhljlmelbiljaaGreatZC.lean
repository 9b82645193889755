/- Texts of lower layers, as one. -/
import Derived.Test.YtnhljlmelbiljaaGreatZA
import Derived.Test.YtnhljlmelbiljaaGreatChecked
import Derived.Deep.QuietTactic
import Derived.BigQuiet
import Derived.Lib.QuietBelow
import Derived.Lib.BufferMore
import Derived.Laws.CopyOwn
import Derived.Test.YtnhljlmelbiljaaGreatZB
/- Plain mathematics of layer 3: spans, which may be, their bytes. No Go here. -/
namespace Go.Proofs.YtnhljlmelbiljaaGreat.M
set_option linter.unusedVariables false

structure Sp where
  trace : Int
  id : Int
  parent : Int
  svc : List UInt8
  host : List UInt8
  start : Int
  dur : Int
  note : List UInt8

theorem Sp.ext' {x y : Sp} (h1 : x.trace = y.trace) (h2 : x.id = y.id) (h3 : x.parent = y.parent) (h4 : x.svc = y.svc) (h5 : x.host = y.host) (h6 : x.start = y.start) (h7 : x.dur = y.dur) (h8 : x.note = y.note) : x = y := by
  cases x; cases y; simp_all

/-- What a Go value of the type can hold. -/
structure Sp.fits (x : Sp) : Prop where
  t1 : -9223372036854775808 ≤ x.trace
  t2 : x.trace ≤ 9223372036854775807
  i1 : -9223372036854775808 ≤ x.id
  i2 : x.id ≤ 9223372036854775807
  p1 : -9223372036854775808 ≤ x.parent
  p2 : x.parent ≤ 9223372036854775807
  s1 : -9223372036854775808 ≤ x.start
  s2 : x.start ≤ 9223372036854775807
  d1 : -9223372036854775808 ≤ x.dur
  d2 : x.dur ≤ 9223372036854775807
  l1 : x.svc.length ≤ 140737488351232
  l2 : x.host.length ≤ 140737488351232
  l3 : x.note.length ≤ 140737488351232

def win (n a b : Int) : Bool := decide (a ≤ n) && decide (n ≤ b)
theorem win_true {n a b : Int} : win n a b = true ↔ a ≤ n ∧ n ≤ b := by simp [win]
theorem win_false {n a b : Int} : win n a b = false ↔ ¬ (a ≤ n ∧ n ≤ b) := by
  rw [← win_true]; simp

/-- P3.1: a name. -/
def byteOk (x : UInt8) : Bool := decide (33 ≤ x.toNat) && decide (x.toNat ≤ 126)
def nameB (l : List UInt8) : Bool := decide (1 ≤ l.length) && decide (l.length ≤ 12) && l.all byteOk
theorem nameB_true {l : List UInt8} (h1 : 1 ≤ l.length) (h2 : l.length ≤ 12) (h : ∀ j (hj : j < l.length), 33 ≤ l[j].toNat ∧ l[j].toNat ≤ 126) : nameB l = true := by
  simp only [nameB, Bool.and_eq_true, decide_eq_true_eq, List.all_eq_true]
  refine ⟨⟨h1, h2⟩, fun x hx => ?_⟩
  obtain ⟨j, hj, rfl⟩ := List.getElem_of_mem hx
  have := h j hj
  simp [byteOk]; omega
theorem nameB_short {l : List UInt8} (h : ¬ (1 ≤ l.length ∧ l.length ≤ 12)) : nameB l = false := by
  cases hn : nameB l with
  | false => rfl
  | true =>
    simp only [nameB, Bool.and_eq_true, decide_eq_true_eq] at hn
    exact absurd ⟨hn.1.1, hn.1.2⟩ h
theorem nameB_byte {l : List UInt8} (j : Nat) (hj : j < l.length) (h : ¬ (33 ≤ l[j].toNat ∧ l[j].toNat ≤ 126)) : nameB l = false := by
  cases hn : nameB l with
  | false => rfl
  | true =>
    simp only [nameB, Bool.and_eq_true, decide_eq_true_eq, List.all_eq_true] at hn
    have := hn.2 _ (List.getElem_mem hj)
    simp [byteOk] at this
    omega
/-- P3.1 Check. -/
def mayB (x : Sp) : Bool := win x.trace 1 2147483647 && win x.id 1 2147483647 && win x.parent 0 2147483647 && nameB x.svc && nameB x.host && win x.start 0 1073741824 && win x.dur 0 1073741824 && decide (x.note.length ≤ 24)
theorem mayB_all {x : Sp} (h1 : win x.trace 1 2147483647 = true) (h2 : win x.id 1 2147483647 = true) (h3 : win x.parent 0 2147483647 = true) (h4 : nameB x.svc = true) (h5 : nameB x.host = true) (h6 : win x.start 0 1073741824 = true) (h7 : win x.dur 0 1073741824 = true) (h8 : x.note.length ≤ 24) : mayB x = true := by
  simp [mayB, h1, h2, h3, h4, h5, h6, h7, h8]
/-- P3.1 Encode: of a span that may be. -/
def nums (x : Sp) : List Nat := [x.trace.toNat, x.id.toNat, x.parent.toNat, x.start.toNat, x.dur.toNat]
def txts (x : Sp) : List (List UInt8) := [x.svc, x.host, x.note]
def putT (t : List UInt8) : List UInt8 := putN t.length ++ t
def encN (ns : List Nat) : List UInt8 := ns.flatMap putN
def encT (ts : List (List UInt8)) : List UInt8 := ts.flatMap putT
def enc (x : Sp) : List UInt8 := encN (nums x) ++ encT (txts x)
/-- P3.2: numbers, then texts, that stand one behind the other. -/
def takeN : Nat → List UInt8 → Nat → Option (List Nat × Nat)
  | 0, _, a => some ([], a)
  | k + 1, l, a => match takeN k l a with
    | none => none
    | some (ns, b) => match gets l b with
      | none => none
      | some (n, c) => some (ns ++ [n], c)
def takeT : Nat → List UInt8 → Nat → Option (List (List UInt8) × Nat)
  | 0, _, a => some ([], a)
  | k + 1, l, a => match takeT k l a with
    | none => none
    | some (ts, b) => match getTs l b with
      | none => none
      | some (t, c) => some (ts ++ [t], c)
/-- Numbers and texts as a span. -/
def spOf (ns : List Nat) (ts : List (List UInt8)) : Sp :=
  { trace := ns.getD 0 0, id := ns.getD 1 0, parent := ns.getD 2 0, svc := ts.getD 0 [], host := ts.getD 1 [], start := ns.getD 3 0, dur := ns.getD 4 0, note := ts.getD 2 [] }
/-- The span of nothing. -/
def sp0 : Sp := { trace := 0, id := 0, parent := 0, svc := [], host := [], start := 0, dur := 0, note := [] }
end Go.Proofs.YtnhljlmelbiljaaGreat.M

/- Layer 3: which spans may be: the program's functions and the document's, each by a contract. -/
namespace Go.Proofs.YtnhljlmelbiljaaGreat
set_option linter.unusedVariables false
open Go Go.RowKit
attribute [local go_sem ↓] run_index_S
attribute [local go_sem] S_append S_extract

/-- The first k bytes are a name's. -/
def GoodTo (l : List UInt8) (k : Nat) : Prop := ∀ j (hj : j < l.length), j < k → 33 ≤ l[j].toNat ∧ l[j].toNat ≤ 126
theorem GoodTo.step {l : List UInt8} {k : Nat} (h : GoodTo l k) (hk : k < l.length) (h1 : 33 ≤ B l k) (h2 : B l k ≤ 126) : GoodTo l (k + 1) := by
  intro j hj hjk
  by_cases e : j = k
  · subst e; rw [B_at l j hj] at h1 h2; omega
  · exact h j hj (by omega)

set_option maxHeartbeats 400000 in
theorem name_any (l : List UInt8) (hl : l.length ≤ 9223372036854775807) (w : World) :
    Calls Tryz.prog 116 #[.string (S l)] w fun e w' => e = .returned (.bool (M.nameB l)) ∧ w = w' := by
  by_cases h1 : l.length < 1
  · go_enter Tryz.func116, Tryz.ntmps116
    go_wp2_with fail
    go_ret
    exact ⟨ret_bool (M.nameB_short (by omega)).symm, rfl⟩
  · by_cases h2 : 12 < l.length
    · go_enter Tryz.func116, Tryz.ntmps116
      go_wp2_with fail
      go_ret
      exact ⟨ret_bool (M.nameB_short (by omega)).symm, rfl⟩
    · have d1 : decide ((l.length : Int) < 1) = false := by simp; omega
      have d2 : decide (12 < (l.length : Int)) = false := by simp; omega
      go_enter Tryz.func116, Tryz.ntmps116
      go_wp2_with fail
      go_loop [14] (fun i => ∃ k : Nat, k ≤ l.length ∧ i = .int .i64 k ∧ GoodTo l k) (fun i => l.length - (intOf i).toNat)
      case atStart => exact ⟨0, Nat.zero_le _, rfl, fun j hj h => by omega⟩
      case round =>
        obtain ⟨k, hk, rfl, hg⟩ := hrel
        by_cases hkl : k < l.length
        · have hr := B_range l k
          by_cases hlo : B l k < 33
          · go_wp2_with fail
            go_ret
            exact ⟨ret_bool (M.nameB_byte k hkl (by rw [B_at l k hkl] at hlo; omega)).symm, rfl⟩
          · have dl : decide (B l k < 33) = false := by simpa using hlo
            by_cases hhi : 126 < B l k
            · go_wp2_with fail
              go_ret
              exact ⟨ret_bool (M.nameB_byte k hkl (by rw [B_at l k hkl] at hhi; omega)).symm, rfl⟩
            · go_wp2_with fail
              go_round
              case rel => exact ⟨k + 1, by omega, by go_num, hg.step hkl (by omega) (by omega)⟩
              case measure => simp [intOf]; omega
        · obtain rfl : k = l.length := by omega
          go_wp2_with fail
          go_ret
          exact ⟨ret_bool (M.nameB_true (by omega) (by omega) (fun j hj => hg j hj hj)).symm, rfl⟩

set_option maxHeartbeats 400000 in
theorem refName_any (l : List UInt8) (hl : l.length ≤ 9223372036854775807) (w : World) :
    Calls Tryz.prog 118 #[.string (S l)] w fun e w' => e = .returned (.bool (M.nameB l)) ∧ w = w' := by
  by_cases h1 : l.length < 1
  · go_enter Tryz.func118, Tryz.ntmps118
    go_wp2_with fail
    go_ret
    exact ⟨ret_bool (M.nameB_short (by omega)).symm, rfl⟩
  · by_cases h2 : 12 < l.length
    · go_enter Tryz.func118, Tryz.ntmps118
      go_wp2_with fail
      go_ret
      exact ⟨ret_bool (M.nameB_short (by omega)).symm, rfl⟩
    · have d1 : decide ((l.length : Int) < 1) = false := by simp; omega
      have d2 : decide (12 < (l.length : Int)) = false := by simp; omega
      go_enter Tryz.func118, Tryz.ntmps118
      go_wp2_with fail
      go_loop [3] (fun i => ∃ k : Nat, k ≤ l.length ∧ i = .int .i64 k ∧ GoodTo l k) (fun i => l.length - (intOf i).toNat)
      case atStart => exact ⟨0, Nat.zero_le _, rfl, fun j hj h => by omega⟩
      case round =>
        obtain ⟨k, hk, rfl, hg⟩ := hrel
        by_cases hkl : k < l.length
        · have hr := B_range l k
          by_cases hlo : B l k < 33
          · go_wp2_with fail
            go_ret
            exact ⟨ret_bool (M.nameB_byte k hkl (by rw [B_at l k hkl] at hlo; omega)).symm, rfl⟩
          · have dl : decide (B l k < 33) = false := by simpa using hlo
            by_cases hhi : 126 < B l k
            · go_wp2_with fail
              go_ret
              exact ⟨ret_bool (M.nameB_byte k hkl (by rw [B_at l k hkl] at hhi; omega)).symm, rfl⟩
            · go_wp2_with fail
              go_round
              case rel => exact ⟨k + 1, by omega, by go_num, hg.step hkl (by omega) (by omega)⟩
              case measure => simp [intOf]; omega
        · obtain rfl : k = l.length := by omega
          go_wp2_with fail
          go_ret
          exact ⟨ret_bool (M.nameB_true (by omega) (by omega) (fun j hj => hg j hj hj)).symm, rfl⟩

theorem between_any (n a b : Int) (w : World) :
    Calls Tryz.prog 117 #[.int .i64 n, .int .i64 a, .int .i64 b] w fun e w' => e = .returned (.bool (M.win n a b)) ∧ w = w' := by
  by_cases h1 : a ≤ n
  · by_cases h2 : n ≤ b
    · go_enter Tryz.func117, Tryz.ntmps117
      go_wp2_with fail
      go_ret
      exact ⟨ret_bool (M.win_true.2 ⟨h1, h2⟩).symm, rfl⟩
    · go_enter Tryz.func117, Tryz.ntmps117
      go_wp2_with fail
      go_ret
      exact ⟨ret_bool (M.win_false.2 (by omega)).symm, rfl⟩
  · go_enter Tryz.func117, Tryz.ntmps117
    go_wp2_with fail
    go_ret
    exact ⟨ret_bool (M.win_false.2 (by omega)).symm, rfl⟩

set_option maxHeartbeats 400000 in
theorem refMay_t (x : M.Sp) (hx : x.fits) (w : World)
    (h_t : M.win x.trace 1 2147483647 = false) :
    Calls Tryz.prog 95 #[.agg #[.int .i64 x.trace, .int .i64 x.id, .int .i64 x.parent, .string (S x.svc), .string (S x.host), .int .i64 x.start, .int .i64 x.dur, .string (S x.note)]] w fun e w' => e = .returned (.bool false) ∧ Below w.heap.size w w' := by
  have l1 := hx.l1
  have l2 := hx.l2
  have l3 := hx.l3
  go_enter Tryz.func95, Tryz.ntmps95
  go_wp2_with (first | (go_at_call 117; refine (between_any _ _ _ _).mono ?_; rintro e w' ⟨rfl, rfl⟩) | (go_at_call 118; refine (refName_any _ (by omega) _).mono ?_; rintro e w' ⟨rfl, rfl⟩))
  go_ret
  exact ⟨rfl, (Below.refl _ _).alloc (Nat.le_refl _) _⟩

set_option maxHeartbeats 400000 in
theorem refMay_i (x : M.Sp) (hx : x.fits) (w : World)
    (h_t : M.win x.trace 1 2147483647 = true)
    (h_i : M.win x.id 1 2147483647 = false) :
    Calls Tryz.prog 95 #[.agg #[.int .i64 x.trace, .int .i64 x.id, .int .i64 x.parent, .string (S x.svc), .string (S x.host), .int .i64 x.start, .int .i64 x.dur, .string (S x.note)]] w fun e w' => e = .returned (.bool false) ∧ Below w.heap.size w w' := by
  have l1 := hx.l1
  have l2 := hx.l2
  have l3 := hx.l3
  go_enter Tryz.func95, Tryz.ntmps95
  go_wp2_with (first | (go_at_call 117; refine (between_any _ _ _ _).mono ?_; rintro e w' ⟨rfl, rfl⟩) | (go_at_call 118; refine (refName_any _ (by omega) _).mono ?_; rintro e w' ⟨rfl, rfl⟩))
  go_ret
  exact ⟨rfl, (Below.refl _ _).alloc (Nat.le_refl _) _⟩

set_option maxHeartbeats 400000 in
theorem refMay_p (x : M.Sp) (hx : x.fits) (w : World)
    (h_t : M.win x.trace 1 2147483647 = true)
    (h_i : M.win x.id 1 2147483647 = true)
    (h_p : M.win x.parent 0 2147483647 = false) :
    Calls Tryz.prog 95 #[.agg #[.int .i64 x.trace, .int .i64 x.id, .int .i64 x.parent, .string (S x.svc), .string (S x.host), .int .i64 x.start, .int .i64 x.dur, .string (S x.note)]] w fun e w' => e = .returned (.bool false) ∧ Below w.heap.size w w' := by
  have l1 := hx.l1
  have l2 := hx.l2
  have l3 := hx.l3
  go_enter Tryz.func95, Tryz.ntmps95
  go_wp2_with (first | (go_at_call 117; refine (between_any _ _ _ _).mono ?_; rintro e w' ⟨rfl, rfl⟩) | (go_at_call 118; refine (refName_any _ (by omega) _).mono ?_; rintro e w' ⟨rfl, rfl⟩))
  go_ret
  exact ⟨rfl, (Below.refl _ _).alloc (Nat.le_refl _) _⟩

set_option maxHeartbeats 400000 in
theorem refMay_s (x : M.Sp) (hx : x.fits) (w : World)
    (h_t : M.win x.trace 1 2147483647 = true)
    (h_i : M.win x.id 1 2147483647 = true)
    (h_p : M.win x.parent 0 2147483647 = true)
    (h_s : M.nameB x.svc = false) :
    Calls Tryz.prog 95 #[.agg #[.int .i64 x.trace, .int .i64 x.id, .int .i64 x.parent, .string (S x.svc), .string (S x.host), .int .i64 x.start, .int .i64 x.dur, .string (S x.note)]] w fun e w' => e = .returned (.bool false) ∧ Below w.heap.size w w' := by
  have l1 := hx.l1
  have l2 := hx.l2
  have l3 := hx.l3
  go_enter Tryz.func95, Tryz.ntmps95
  go_wp2_with (first | (go_at_call 117; refine (between_any _ _ _ _).mono ?_; rintro e w' ⟨rfl, rfl⟩) | (go_at_call 118; refine (refName_any _ (by omega) _).mono ?_; rintro e w' ⟨rfl, rfl⟩))
  go_ret
  exact ⟨rfl, (Below.refl _ _).alloc (Nat.le_refl _) _⟩

set_option maxHeartbeats 400000 in
theorem refMay_h (x : M.Sp) (hx : x.fits) (w : World)
    (h_t : M.win x.trace 1 2147483647 = true)
    (h_i : M.win x.id 1 2147483647 = true)
    (h_p : M.win x.parent 0 2147483647 = true)
    (h_s : M.nameB x.svc = true)
    (h_h : M.nameB x.host = false) :
    Calls Tryz.prog 95 #[.agg #[.int .i64 x.trace, .int .i64 x.id, .int .i64 x.parent, .string (S x.svc), .string (S x.host), .int .i64 x.start, .int .i64 x.dur, .string (S x.note)]] w fun e w' => e = .returned (.bool false) ∧ Below w.heap.size w w' := by
  have l1 := hx.l1
  have l2 := hx.l2
  have l3 := hx.l3
  go_enter Tryz.func95, Tryz.ntmps95
  go_wp2_with (first | (go_at_call 117; refine (between_any _ _ _ _).mono ?_; rintro e w' ⟨rfl, rfl⟩) | (go_at_call 118; refine (refName_any _ (by omega) _).mono ?_; rintro e w' ⟨rfl, rfl⟩))
  go_ret
  exact ⟨rfl, (Below.refl _ _).alloc (Nat.le_refl _) _⟩

set_option maxHeartbeats 400000 in
theorem refMay_b (x : M.Sp) (hx : x.fits) (w : World)
    (h_t : M.win x.trace 1 2147483647 = true)
    (h_i : M.win x.id 1 2147483647 = true)
    (h_p : M.win x.parent 0 2147483647 = true)
    (h_s : M.nameB x.svc = true)
    (h_h : M.nameB x.host = true)
    (h_b : M.win x.start 0 1073741824 = false) :
    Calls Tryz.prog 95 #[.agg #[.int .i64 x.trace, .int .i64 x.id, .int .i64 x.parent, .string (S x.svc), .string (S x.host), .int .i64 x.start, .int .i64 x.dur, .string (S x.note)]] w fun e w' => e = .returned (.bool false) ∧ Below w.heap.size w w' := by
  have l1 := hx.l1
  have l2 := hx.l2
  have l3 := hx.l3
  go_enter Tryz.func95, Tryz.ntmps95
  go_wp2_with (first | (go_at_call 117; refine (between_any _ _ _ _).mono ?_; rintro e w' ⟨rfl, rfl⟩) | (go_at_call 118; refine (refName_any _ (by omega) _).mono ?_; rintro e w' ⟨rfl, rfl⟩))
  go_ret
  exact ⟨rfl, (Below.refl _ _).alloc (Nat.le_refl _) _⟩

set_option maxHeartbeats 400000 in
theorem refMay_d (x : M.Sp) (hx : x.fits) (w : World)
    (h_t : M.win x.trace 1 2147483647 = true)
    (h_i : M.win x.id 1 2147483647 = true)
    (h_p : M.win x.parent 0 2147483647 = true)
    (h_s : M.nameB x.svc = true)
    (h_h : M.nameB x.host = true)
    (h_b : M.win x.start 0 1073741824 = true)
    (h_d : M.win x.dur 0 1073741824 = false) :
    Calls Tryz.prog 95 #[.agg #[.int .i64 x.trace, .int .i64 x.id, .int .i64 x.parent, .string (S x.svc), .string (S x.host), .int .i64 x.start, .int .i64 x.dur, .string (S x.note)]] w fun e w' => e = .returned (.bool false) ∧ Below w.heap.size w w' := by
  have l1 := hx.l1
  have l2 := hx.l2
  have l3 := hx.l3
  go_enter Tryz.func95, Tryz.ntmps95
  go_wp2_with (first | (go_at_call 117; refine (between_any _ _ _ _).mono ?_; rintro e w' ⟨rfl, rfl⟩) | (go_at_call 118; refine (refName_any _ (by omega) _).mono ?_; rintro e w' ⟨rfl, rfl⟩))
  go_ret
  exact ⟨rfl, (Below.refl _ _).alloc (Nat.le_refl _) _⟩

set_option maxHeartbeats 400000 in
theorem refMay_n (x : M.Sp) (hx : x.fits) (w : World)
    (h_t : M.win x.trace 1 2147483647 = true)
    (h_i : M.win x.id 1 2147483647 = true)
    (h_p : M.win x.parent 0 2147483647 = true)
    (h_s : M.nameB x.svc = true)
    (h_h : M.nameB x.host = true)
    (h_b : M.win x.start 0 1073741824 = true)
    (h_d : M.win x.dur 0 1073741824 = true)
    (h_n : ¬ x.note.length ≤ 24) :
    Calls Tryz.prog 95 #[.agg #[.int .i64 x.trace, .int .i64 x.id, .int .i64 x.parent, .string (S x.svc), .string (S x.host), .int .i64 x.start, .int .i64 x.dur, .string (S x.note)]] w fun e w' => e = .returned (.bool false) ∧ Below w.heap.size w w' := by
  have l1 := hx.l1
  have l2 := hx.l2
  have l3 := hx.l3
  have dn : decide (24 < (x.note.length : Int)) = true := by simp; omega
  have dn2 : decide ((x.note.length : Int) ≤ 24) = false := by simp; omega
  go_enter Tryz.func95, Tryz.ntmps95
  go_wp2_with (first | (go_at_call 117; refine (between_any _ _ _ _).mono ?_; rintro e w' ⟨rfl, rfl⟩) | (go_at_call 118; refine (refName_any _ (by omega) _).mono ?_; rintro e w' ⟨rfl, rfl⟩))
  go_ret
  exact ⟨rfl, (Below.refl _ _).alloc (Nat.le_refl _) _⟩

set_option maxHeartbeats 400000 in
theorem refMay_ok (x : M.Sp) (hx : x.fits) (w : World)
    (h_t : M.win x.trace 1 2147483647 = true)
    (h_i : M.win x.id 1 2147483647 = true)
    (h_p : M.win x.parent 0 2147483647 = true)
    (h_s : M.nameB x.svc = true)
    (h_h : M.nameB x.host = true)
    (h_b : M.win x.start 0 1073741824 = true)
    (h_d : M.win x.dur 0 1073741824 = true)
    (h_n : x.note.length ≤ 24) :
    Calls Tryz.prog 95 #[.agg #[.int .i64 x.trace, .int .i64 x.id, .int .i64 x.parent, .string (S x.svc), .string (S x.host), .int .i64 x.start, .int .i64 x.dur, .string (S x.note)]] w fun e w' => e = .returned (.bool true) ∧ Below w.heap.size w w' := by
  have l1 := hx.l1
  have l2 := hx.l2
  have l3 := hx.l3
  have dn : decide (24 < (x.note.length : Int)) = false := by simp; omega
  have dn2 : decide ((x.note.length : Int) ≤ 24) = true := by simp; omega
  go_enter Tryz.func95, Tryz.ntmps95
  go_wp2_with (first | (go_at_call 117; refine (between_any _ _ _ _).mono ?_; rintro e w' ⟨rfl, rfl⟩) | (go_at_call 118; refine (refName_any _ (by omega) _).mono ?_; rintro e w' ⟨rfl, rfl⟩))
  go_ret
  exact ⟨rfl, (Below.refl _ _).alloc (Nat.le_refl _) _⟩

theorem refMay_any (x : M.Sp) (hx : x.fits) (w : World) :
    Calls Tryz.prog 95 #[.agg #[.int .i64 x.trace, .int .i64 x.id, .int .i64 x.parent, .string (S x.svc), .string (S x.host), .int .i64 x.start, .int .i64 x.dur, .string (S x.note)]] w fun e w' => e = .returned (.bool (M.mayB x)) ∧ Below w.heap.size w w' := by
  cases h_t : M.win x.trace 1 2147483647
  case false =>
    have hm : M.mayB x = false := by simp only [M.mayB]; simp [h_t]
    rw [hm]
    exact refMay_t x hx w  h_t
  cases h_i : M.win x.id 1 2147483647
  case false =>
    have hm : M.mayB x = false := by simp only [M.mayB]; simp [h_i]
    rw [hm]
    exact refMay_i x hx w h_t h_i
  cases h_p : M.win x.parent 0 2147483647
  case false =>
    have hm : M.mayB x = false := by simp only [M.mayB]; simp [h_p]
    rw [hm]
    exact refMay_p x hx w h_t h_i h_p
  cases h_s : M.nameB x.svc
  case false =>
    have hm : M.mayB x = false := by simp only [M.mayB]; simp [h_s]
    rw [hm]
    exact refMay_s x hx w h_t h_i h_p h_s
  cases h_h : M.nameB x.host
  case false =>
    have hm : M.mayB x = false := by simp only [M.mayB]; simp [h_h]
    rw [hm]
    exact refMay_h x hx w h_t h_i h_p h_s h_h
  cases h_b : M.win x.start 0 1073741824
  case false =>
    have hm : M.mayB x = false := by simp only [M.mayB]; simp [h_b]
    rw [hm]
    exact refMay_b x hx w h_t h_i h_p h_s h_h h_b
  cases h_d : M.win x.dur 0 1073741824
  case false =>
    have hm : M.mayB x = false := by simp only [M.mayB]; simp [h_d]
    rw [hm]
    exact refMay_d x hx w h_t h_i h_p h_s h_h h_b h_d
  by_cases h_n : x.note.length ≤ 24
  case neg =>
    have hm : M.mayB x = false := by simp only [M.mayB]; simp [h_n]
    rw [hm]
    exact refMay_n x hx w h_t h_i h_p h_s h_h h_b h_d h_n
  have hm : M.mayB x = true := M.mayB_all h_t h_i h_p h_s h_h h_b h_d h_n
  rw [hm]
  exact refMay_ok x hx w h_t h_i h_p h_s h_h h_b h_d h_n

end Go.Proofs.YtnhljlmelbiljaaGreat

/- Layer 3: Encode, the program's and the document's, each by a contract. -/
namespace Go.Proofs.YtnhljlmelbiljaaGreat
set_option linter.unusedVariables false
open Go Go.RowKit
attribute [local go_sem ↓] run_index_S
attribute [local go_sem] S_append S_extract

theorem bcell {W w1 : World} (hb : Below W.heap.size W w1) : (∀ b o, b < W.heap.size → w1.cell? ⟨b, o, none⟩ = W.cell? ⟨b, o, none⟩) ∧ (∀ b o, b < W.heap.size → w1.frozen? ⟨b, o, none⟩ = W.frozen? ⟨b, o, none⟩) :=
  ⟨fun b o h => hb.cell (p := ⟨b, o, none⟩) h, fun b o h => hb.frozen (p := ⟨b, o, none⟩) h⟩

/-- A span lies in a block. -/
structure SpAt (x : M.Sp) (w : World) (b : Nat) : Prop where
  c0 : w.cell? ⟨b, 0, none⟩ = some (.int .i64 x.trace)
  c1 : w.cell? ⟨b, 1, none⟩ = some (.int .i64 x.id)
  c2 : w.cell? ⟨b, 2, none⟩ = some (.int .i64 x.parent)
  c3 : w.cell? ⟨b, 3, none⟩ = some (.string (S x.svc))
  c4 : w.cell? ⟨b, 4, none⟩ = some (.string (S x.host))
  c5 : w.cell? ⟨b, 5, none⟩ = some (.int .i64 x.start)
  c6 : w.cell? ⟨b, 6, none⟩ = some (.int .i64 x.dur)
  c7 : w.cell? ⟨b, 7, none⟩ = some (.string (S x.note))
  at_ : b < w.heap.size
theorem SpAt.below {x : M.Sp} {w w' : World} {b : Nat} (h : SpAt x w b) (hb : Below w.heap.size w w') : SpAt x w' b := by
  obtain ⟨c, f⟩ := bcell hb
  exact ⟨by rw [c _ _ h.at_]; exact h.c0, by rw [c _ _ h.at_]; exact h.c1, by rw [c _ _ h.at_]; exact h.c2, by rw [c _ _ h.at_]; exact h.c3, by rw [c _ _ h.at_]; exact h.c4, by rw [c _ _ h.at_]; exact h.c5, by rw [c _ _ h.at_]; exact h.c6, by rw [c _ _ h.at_]; exact h.c7, Nat.lt_of_lt_of_le h.at_ hb.size⟩
theorem SpAt.grown {x : M.Sp} {w : World} {b : Nat} (h : SpAt x w b) (d : Nat) (os : Array Obj) : SpAt x (Sort.grow (redrawn w d) os) b := h.below (below_regrown w d os)
/-- The rows of numbers and of texts that Encode goes along, and the span's own texts. -/
structure EncAt (x : M.Sp) (w : World) (a : Nat) : Prop where
  s : w.cell? ⟨a, 3, none⟩ = some (.string (S x.svc))
  h : w.cell? ⟨a, 4, none⟩ = some (.string (S x.host))
  n : w.cell? ⟨a, 7, none⟩ = some (.string (S x.note))
  at_ : a < w.heap.size
theorem EncAt.below {x : M.Sp} {w w' : World} {a : Nat} (h : EncAt x w a) (hb : Below w.heap.size w w') : EncAt x w' a := by
  obtain ⟨c, f⟩ := bcell hb
  have hs := hb.size
  exact ⟨by rw [c _ _ h.at_]; exact h.s, by rw [c _ _ h.at_]; exact h.h, by rw [c _ _ h.at_]; exact h.n, Nat.lt_of_lt_of_le h.at_ hs⟩
structure NumsAt (x : M.Sp) (w : World) (b : Nat) : Prop where
  c : ∀ j, j < 5 → w.cell? ⟨b, j, none⟩ = some (.int .i64 ((M.nums x).getD j 0 : Nat))
  at_ : b < w.heap.size
theorem NumsAt.below {x : M.Sp} {w w' : World} {b : Nat} (h : NumsAt x w b) (hb : Below w.heap.size w w') : NumsAt x w' b := by
  obtain ⟨c, f⟩ := bcell hb
  exact ⟨fun j hj => by rw [c _ _ h.at_]; exact h.c j hj, Nat.lt_of_lt_of_le h.at_ hb.size⟩
structure TxtsAt (x : M.Sp) (w : World) (b : Nat) : Prop where
  c : ∀ j, j < 3 → w.cell? ⟨b, j, none⟩ = some (.string (S ((M.txts x).getD j [])))
  at_ : b < w.heap.size
theorem TxtsAt.below {x : M.Sp} {w w' : World} {b : Nat} (h : TxtsAt x w b) (hb : Below w.heap.size w w') : TxtsAt x w' b := by
  obtain ⟨c, f⟩ := bcell hb
  exact ⟨fun j hj => by rw [c _ _ h.at_]; exact h.c j hj, Nat.lt_of_lt_of_le h.at_ hb.size⟩
end Go.Proofs.YtnhljlmelbiljaaGreat

/- Layer 3: the program's Decode by a contract. -/
namespace Go.Proofs.YtnhljlmelbiljaaGreat
set_option linter.unusedVariables false
open Go Go.RowKit
attribute [local go_sem ↓] run_index_S
attribute [local go_sem] S_append S_extract

/-- Where a span's numbers lie, and its texts. -/
def offN (k : Nat) : Nat := [0, 1, 2, 5, 6].getD k 0
def offT (k : Nat) : Nat := [3, 4, 7].getD k 0

/-- A block that is a span. -/
def spC (x : M.Sp) : Array Value := #[.int .i64 x.trace, .int .i64 x.id, .int .i64 x.parent, .string (S x.svc), .string (S x.host), .int .i64 x.start, .int .i64 x.dur, .string (S x.note)]
def SpIn (x : M.Sp) (w : World) (b : Nat) : Prop := w.heap[b]? = some (.cells (spC x) 159 (0, 0))
theorem SpIn.lt {x : M.Sp} {w : World} {b : Nat} (h : SpIn x w b) : b < w.heap.size := by
  rcases Nat.lt_or_ge b w.heap.size with h' | h'
  · exact h'
  · simp [SpIn, Array.getElem?_eq_none h'] at h
theorem SpIn.at_ {x : M.Sp} {w : World} {b : Nat} (h : SpIn x w b) : SpAt x w b := by
  have hl := SpIn.lt h
  unfold SpIn at h
  exact ⟨by simp [World.cell?, h, spC], by simp [World.cell?, h, spC], by simp [World.cell?, h, spC], by simp [World.cell?, h, spC], by simp [World.cell?, h, spC], by simp [World.cell?, h, spC], by simp [World.cell?, h, spC], by simp [World.cell?, h, spC], hl⟩
theorem SpIn.free {x : M.Sp} {w : World} {b : Nat} (h : SpIn x w b) (j : Nat) : w.frozen? ⟨b, j, none⟩ = false := by
  unfold SpIn at h
  simp [World.frozen?, h]
theorem SpIn.below {x : M.Sp} {w w' : World} {b : Nat} (h : SpIn x w b) (hb : Below w.heap.size w w') : SpIn x w' b := by
  have hl := SpIn.lt h
  unfold SpIn at *
  rw [hb.block b hl]; exact h
theorem SpIn.other {x : M.Sp} {w : World} {b c : Nat} (h : SpIn x w b) (hne : b ≠ c) (i : Nat) (v : Value) : SpIn x (w.setCell ⟨c, i, none⟩ v) b := by
  unfold SpIn at *
  rw [Below.heap_setCell _ _ _ _ hne]; exact h
theorem SpIn.more {x : M.Sp} {w : World} {b : Nat} (h : SpIn x w b) (o : Obj) : SpIn x (w.alloc o) b := h.below ((Below.refl _ _).alloc (Nat.le_refl _) _)
theorem SpIn.row {x : M.Sp} {w : World} {b : Nat} (h : SpIn x w b) (y : M.Sp) : SpIn y (w.setRow b (spC y)) b := setRow_heap w b _ _ _ _ h

/-- A row of places in a span's block. -/
structure PtrsN (w : World) (s b : Nat) : Prop where
  c : ∀ k, k < 5 → w.cell? ⟨s, k, none⟩ = some (.pointer (some ⟨b, offN k, none⟩))
  at_ : s < w.heap.size
structure PtrsT (w : World) (s b : Nat) : Prop where
  c : ∀ k, k < 3 → w.cell? ⟨s, k, none⟩ = some (.pointer (some ⟨b, offT k, none⟩))
  at_ : s < w.heap.size
theorem PtrsN.set {w : World} {s b : Nat} (h : PtrsN w s b) {c : Nat} (hne : s ≠ c) (i : Nat) (v : Value) : PtrsN (w.setCell ⟨c, i, none⟩ v) s b :=
  ⟨fun k hk => by rw [← h.c k hk]; simp [World.cell?, Below.heap_setCell _ ⟨c, i, none⟩ _ _ hne], by simpa [World.setCell] using h.at_⟩
theorem PtrsT.set {w : World} {s b : Nat} (h : PtrsT w s b) {c : Nat} (hne : s ≠ c) (i : Nat) (v : Value) : PtrsT (w.setCell ⟨c, i, none⟩ v) s b :=
  ⟨fun k hk => by rw [← h.c k hk]; simp [World.cell?, Below.heap_setCell _ ⟨c, i, none⟩ _ _ hne], by simpa [World.setCell] using h.at_⟩

end Go.Proofs.YtnhljlmelbiljaaGreat

/- Layer 3: the document's Take, Decode, by contracts; Less. -/
namespace Go.Proofs.YtnhljlmelbiljaaGreat
set_option linter.unusedVariables false
open Go Go.RowKit
attribute [local go_sem ↓] run_index_S
attribute [local go_sem] S_append S_extract

/-- A block whose cells are known. -/
def RowIn (C : Array Value) (T : TypeId) (w : World) (b : Nat) : Prop := w.heap[b]? = some (.cells C T (0, 0))
section
variable {C : Array Value} {T : TypeId} {w w' : World} {b : Nat}
theorem RowIn.lt (h : RowIn C T w b) : b < w.heap.size := by
  rcases Nat.lt_or_ge b w.heap.size with h' | h'
  · exact h'
  · simp [RowIn, Array.getElem?_eq_none h'] at h
theorem RowIn.free (h : RowIn C T w b) (j : Nat) : w.frozen? ⟨b, j, none⟩ = false := by
  unfold RowIn at h
  simp [World.frozen?, h]
theorem RowIn.cell (h : RowIn C T w b) (j : Nat) : w.cell? ⟨b, j, none⟩ = C[j]? := by
  unfold RowIn at h
  simp [World.cell?, h]
theorem RowIn.below (h : RowIn C T w b) (hb : Below w.heap.size w w') : RowIn C T w' b := by
  have hl := h.lt
  unfold RowIn at *
  rw [hb.block b hl]; exact h
theorem RowIn.other (h : RowIn C T w b) {c : Nat} (hne : b ≠ c) (i : Nat) (v : Value) : RowIn C T (w.setCell ⟨c, i, none⟩ v) b := by
  unfold RowIn at *
  rw [Below.heap_setCell _ _ _ _ hne]; exact h
theorem RowIn.set (h : RowIn C T w b) (i : Nat) (v : Value) : RowIn (C.setIfInBounds i v) T (w.setCell ⟨b, i, none⟩ v) b := by
  unfold RowIn at *
  simp [World.setCell, Array.getElem?_modify, h]
theorem RowIn.more (h : RowIn C T w b) (o : Obj) : RowIn C T (w.alloc o) b := h.below ((Below.refl _ _).alloc (Nat.le_refl _) _)
end
theorem rowIn_new (C : Array Value) (T : TypeId) (w : World) : RowIn C T (w.alloc (.cells C T)) w.heap.size := heap_alloc_new w _
theorem rowIn_at (C : Array Value) (T : TypeId) (w : World) (b : Nat) (hb : b = w.heap.size) : RowIn C T (w.alloc (.cells C T)) b := hb ▸ heap_alloc_new w _

/-- P3.2, as far as the numbers and texts. -/
def M.take (l : List UInt8) (a : Nat) : Option (M.Sp × Nat) := match M.takeN 5 l a with
  | none => none
  | some (ns, b) => match M.takeT 3 l b with
    | none => none
    | some (ts, e) => some (M.spOf ns ts, e)
end Go.Proofs.YtnhljlmelbiljaaGreat

/- Layer 3: the document's Decode; Less. -/
namespace Go.Proofs.YtnhljlmelbiljaaGreat
set_option linter.unusedVariables false
open Go Go.RowKit
attribute [local go_sem ↓] run_index_S
attribute [local go_sem] S_append S_extract

end Go.Proofs.YtnhljlmelbiljaaGreat

/- Layer 3: the chapter's examples (spoorlaw03.does) come out true. -/
namespace Go.Proofs.YtnhljlmelbiljaaGreat
set_option linter.unusedVariables false
open Go Go.RowKit
attribute [local go_sem ↓] run_index_S
attribute [local go_sem] S_append S_extract

def sz : M.Sp := { trace := 300, id := 3, parent := 1, svc := [97, 112, 105], host := [104, 49], start := 5, dur := 0, note := [111, 107] }
theorem RowIn.grown {C : Array Value} {T : TypeId} {w : World} {b : Nat} (h : RowIn C T w b) (d : Nat) (os : Array Obj) : RowIn C T (Sort.grow (redrawn w d) os) b := h.below (below_regrown w d os)
theorem RowIn.gcell {C : Array Value} {T : TypeId} {w : World} {b : Nat} (h : RowIn C T w b) (j : Nat) {v : Value} (hv : C[j]? = some v) (d : Nat) (os : Array Obj) : (Sort.grow (redrawn w d) os).cell? ⟨b, j, none⟩ = some v := ((h.grown d os).cell j).trans hv

end Go.Proofs.YtnhljlmelbiljaaGreat

/- Layer 3: a span that comes in by value. -/
namespace Go.Proofs.YtnhljlmelbiljaaGreat
set_option linter.unusedVariables false
open Go Go.RowKit

/-- What every Go value of the type is. -/
structure M.Sp.ints (x : M.Sp) : Prop where
  t1 : -9223372036854775808 ≤ x.trace
  t2 : x.trace ≤ 9223372036854775807
  i1 : -9223372036854775808 ≤ x.id
  i2 : x.id ≤ 9223372036854775807
  p1 : -9223372036854775808 ≤ x.parent
  p2 : x.parent ≤ 9223372036854775807
  s1 : -9223372036854775808 ≤ x.start
  s2 : x.start ≤ 9223372036854775807
  d1 : -9223372036854775808 ≤ x.dur
  d2 : x.dur ≤ 9223372036854775807
theorem M.Sp.ints.fits {x : M.Sp} (h : x.ints) (l1 : x.svc.length ≤ 1000) (l2 : x.host.length ≤ 1000) (l3 : x.note.length ≤ 1000) : x.fits :=
  ⟨h.t1, h.t2, h.i1, h.i2, h.p1, h.p2, h.s1, h.s2, h.d1, h.d2, by omega, by omega, by omega⟩
end Go.Proofs.YtnhljlmelbiljaaGreat

/- Plain mathematics of layer 3: there and back. No Go here. -/
namespace Go.Proofs.YtnhljlmelbiljaaGreat.M
set_option linter.unusedVariables false

end Go.Proofs.YtnhljlmelbiljaaGreat.M
