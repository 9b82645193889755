import Derived.Test.YtmammmjmipgmoaaGreatDoorZA
import Derived.Test.YtmammmjmipgmoaaGreatDoorChecked
import Derived.Deep.QuietTactic
import Derived.BigQuiet
import Derived.Lib.QuietBelow
import Derived.Lib.BufferMore
import Derived.Laws.CopyOwn
import Derived.Test.YtmammmjmipgmoaaGreatDoorZB
import Derived.Test.YtmammmjmipgmoaaGreatDoorZQh
set_option linter.unusedVariables false
set_option maxRecDepth 100000
set_option maxHeartbeats 16000000
namespace Go.Proofs.YtmammmjmipgmoaaGreatDoor
namespace M
structure Sp where
 trace : Int
 id : Int
 parent : Int
 svc : List UInt8
 host : List UInt8
 start : Int
 dur : Int
 note : List UInt8
theorem Sp.ext' {x y : Sp} (h1 : x.trace = y.trace) (h2 : x.id = y.id) (h3 : x.parent = y.parent) (h4 : x.svc = y.svc) (h5 : x.host = y.host) (h6 : x.start = y.start) (h7 : x.dur = y.dur) (h8 : x.note = y.note) : x = y := by
 cases x; cases y; simp_all
structure Sp.fits (x : Sp) : Prop where
 t1 : -9223372036854775808 ≤ x.trace
 t2 : x.trace ≤ 9223372036854775807
 i1 : -9223372036854775808 ≤ x.id
 i2 : x.id ≤ 9223372036854775807
 p1 : -9223372036854775808 ≤ x.parent
 p2 : x.parent ≤ 9223372036854775807
 s1 : -9223372036854775808 ≤ x.start
 s2 : x.start ≤ 9223372036854775807
 d1 : -9223372036854775808 ≤ x.dur
 d2 : x.dur ≤ 9223372036854775807
 l1 : x.svc.length ≤ 140737488351232
 l2 : x.host.length ≤ 140737488351232
 l3 : x.note.length ≤ 140737488351232
def win (n a b : Int) : Bool := decide (a ≤ n) && decide (n ≤ b)
theorem win_true {n a b : Int} : win n a b = true ↔ a ≤ n ∧ n ≤ b := by simp [win]
theorem win_false {n a b : Int} : win n a b = false ↔ ¬ (a ≤ n ∧ n ≤ b) := by
 rw [← win_true]; simp
def byteOk (x : UInt8) : Bool := decide (33 ≤ x.toNat) && decide (x.toNat ≤ 126)
def nameB (l : List UInt8) : Bool := decide (1 ≤ l.length) && decide (l.length ≤ 12) && l.all byteOk
theorem nameB_true {l : List UInt8} (h1 : 1 ≤ l.length) (h2 : l.length ≤ 12) (h : ∀ j (hj : j < l.length), 33 ≤ l[j].toNat ∧ l[j].toNat ≤ 126) : nameB l = true := by
 simp only [nameB, Bool.and_eq_true, decide_eq_true_eq, List.all_eq_true];refine ⟨⟨h1, h2⟩, fun x hx => ?_⟩;obtain ⟨j, hj, rfl⟩ := List.getElem_of_mem hx;have := h j hj;simp [byteOk]; omega
theorem nameB_short {l : List UInt8} (h : ¬ (1 ≤ l.length ∧ l.length ≤ 12)) : nameB l = false := by
 cases hn : nameB l with
 | false => rfl
 | true =>
  simp only [nameB, Bool.and_eq_true, decide_eq_true_eq] at hn;exact absurd ⟨hn.1.1, hn.1.2⟩ h
theorem nameB_byte {l : List UInt8} (j : Nat) (hj : j < l.length) (h : ¬ (33 ≤ l[j].toNat ∧ l[j].toNat ≤ 126)) : nameB l = false := by
 cases hn : nameB l with
 | false => rfl
 | true =>
  simp only [nameB, Bool.and_eq_true, decide_eq_true_eq, List.all_eq_true] at hn;have := hn.2 _ (List.getElem_mem hj);simp [byteOk] at this;omega
theorem nameB_len {l : List UInt8} (h : nameB l = true) : 1 ≤ l.length ∧ l.length ≤ 12 := by
 simp only [nameB, Bool.and_eq_true, decide_eq_true_eq] at h;exact ⟨h.1.1, h.1.2⟩
def mayB (x : Sp) : Bool := win x.trace 1 2147483647 && win x.id 1 2147483647 && win x.parent 0 2147483647 && nameB x.svc && nameB x.host && win x.start 0 1073741824 && win x.dur 0 1073741824 && decide (x.note.length ≤ 24)
theorem mayB_all {x : Sp} (h1 : win x.trace 1 2147483647 = true) (h2 : win x.id 1 2147483647 = true) (h3 : win x.parent 0 2147483647 = true) (h4 : nameB x.svc = true) (h5 : nameB x.host = true) (h6 : win x.start 0 1073741824 = true) (h7 : win x.dur 0 1073741824 = true) (h8 : x.note.length ≤ 24) : mayB x = true := by
 simp [mayB, h1, h2, h3, h4, h5, h6, h7, h8]
theorem mayB_parts {x : Sp} (h : mayB x = true) : (1 ≤ x.trace ∧ x.trace ≤ 2147483647) ∧ (1 ≤ x.id ∧ x.id ≤ 2147483647) ∧ (0 ≤ x.parent ∧ x.parent ≤ 2147483647) ∧ nameB x.svc = true ∧ nameB x.host = true ∧ (0 ≤ x.start ∧ x.start ≤ 1073741824) ∧ (0 ≤ x.dur ∧ x.dur ≤ 1073741824) ∧ x.note.length ≤ 24 := by
 simp only [mayB, Bool.and_eq_true, decide_eq_true_eq, win_true] at h;obtain ⟨⟨⟨⟨⟨⟨⟨h1, h2⟩, h3⟩, h4⟩, h5⟩, h6⟩, h7⟩, h8⟩ := h;exact ⟨h1, h2, h3, h4, h5, h6, h7, h8⟩
def errOf (b : Bool) : Int := if b then 0 else 2
def nums (x : Sp) : List Nat := [x.trace.toNat, x.id.toNat, x.parent.toNat, x.start.toNat, x.dur.toNat]
def txts (x : Sp) : List (List UInt8) := [x.svc, x.host, x.note]
def putT (t : List UInt8) : List UInt8 := putN t.length ++ t
def encN (ns : List Nat) : List UInt8 := ns.flatMap putN
def encT (ts : List (List UInt8)) : List UInt8 := ts.flatMap putT
def enc (x : Sp) : List UInt8 := encN (nums x) ++ encT (txts x)
theorem encN_snoc (ns : List Nat) (n : Nat) : encN (ns ++ [n]) = encN ns ++ putN n := by simp [encN]
theorem encT_snoc (ts : List (List UInt8)) (t : List UInt8) : encT (ts ++ [t]) = encT ts ++ putT t := by simp [encT]
def takeN : Nat → List UInt8 → Nat → Option (List Nat × Nat)
 | 0, _, a => some ([], a)
 | k + 1, l, a => match takeN k l a with
  | none => none
  | some (ns, b) => match gets l b with
   | none => none
   | some (n, c) => some (ns ++ [n], c)
def takeT : Nat → List UInt8 → Nat → Option (List (List UInt8) × Nat)
 | 0, _, a => some ([], a)
 | k + 1, l, a => match takeT k l a with
  | none => none
  | some (ts, b) => match getTs l b with
   | none => none
   | some (t, c) => some (ts ++ [t], c)
theorem takeN_none {k m : Nat} {l : List UInt8} {a : Nat} (h : takeN k l a = none) (hkm : k ≤ m) : takeN m l a = none := by
 induction m with
 | zero => obtain rfl : k = 0 := by omega
           exact h
 | succ m ih =>
  by_cases e : k = m + 1
  ·subst e; exact h
  ·simp [takeN, ih (by omega)]
theorem takeT_none {k m : Nat} {l : List UInt8} {a : Nat} (h : takeT k l a = none) (hkm : k ≤ m) : takeT m l a = none := by
 induction m with
 | zero => obtain rfl : k = 0 := by omega
           exact h
 | succ m ih =>
  by_cases e : k = m + 1
  ·subst e; exact h
  ·simp [takeT, ih (by omega)]
theorem takeN_len : ∀ {k : Nat} {l : List UInt8} {a : Nat} {ns : List Nat} {b : Nat}, takeN k l a = some (ns, b) → ns.length = k ∧ (a ≤ l.length → b ≤ l.length) ∧ (∀ n ∈ ns, n ≤ 9223372036854775807)
 | 0, l, a, ns, b, h => by
  simp only [takeN, Option.some.injEq, Prod.mk.injEq] at h;obtain ⟨rfl, rfl⟩ := h;simp
 | k + 1, l, a, ns, b, h => by
  simp only [takeN] at h;split at h
  ·simp at h
  ·rename_i ms c hm
   split at h
   ·simp at h
   ·rename_i n d hg
    simp only [Option.some.injEq, Prod.mk.injEq] at h;obtain ⟨rfl, rfl⟩ := h;have ih := takeN_len hm;have hb := gets_bounds hg;refine ⟨by simp [ih.1], fun _ => hb.2.2.1, fun x hx => ?_⟩;rw [List.mem_append] at hx;rcases hx with hx | hx
    ·exact ih.2.2 x hx
    ·have : x = n := by simpa using hx
     rw [this]; exact hb.2.2.2.1
theorem takeT_len : ∀ {k : Nat} {l : List UInt8} {a : Nat} {ts : List (List UInt8)} {b : Nat}, takeT k l a = some (ts, b) → ts.length = k ∧ (∀ t ∈ ts, t.length ≤ l.length)
 | 0, l, a, ts, b, h => by
  simp only [takeT, Option.some.injEq, Prod.mk.injEq] at h;obtain ⟨rfl, rfl⟩ := h;simp
 | k + 1, l, a, ts, b, h => by
  simp only [takeT] at h;split at h
  ·simp at h
  ·rename_i ms c hm
   split at h
   ·simp at h
   ·rename_i t d hg
    simp only [Option.some.injEq, Prod.mk.injEq] at h;obtain ⟨rfl, rfl⟩ := h;have ih := takeT_len hm;refine ⟨by simp [ih.1], fun x hx => ?_⟩;rw [List.mem_append] at hx;rcases hx with hx | hx
    ·exact ih.2 x hx
    ·have e : x = t := by simpa using hx
     rw [e];unfold getTs at hg;split at hg
     ·split at hg
      ·simp only [Option.some.injEq, Prod.mk.injEq] at hg
       rw [← hg.1, List.length_take, List.length_drop];omega
      ·simp at hg
     ·simp at hg
def spOf (ns : List Nat) (ts : List (List UInt8)) : Sp :=
 { trace := ns.getD 0 0, id := ns.getD 1 0, parent := ns.getD 2 0, svc := ts.getD 0 [], host := ts.getD 1 [], start := ns.getD 3 0, dur := ns.getD 4 0, note := ts.getD 2 [] }
def dec (l : List UInt8) : Option Sp :=
 match takeN 5 l 0 with
 | none => none
 | some (ns, a) => match takeT 3 l a with
  | none => none
  | some (ts, e) => if e = l.length ∧ mayB (spOf ns ts) = true then some (spOf ns ts) else none
def sp0 : Sp := { trace := 0, id := 0, parent := 0, svc := [], host := [], start := 0, dur := 0, note := [] }
theorem encN_len (ns : List Nat) : (encN ns).length ≤ 10 * ns.length := by
 induction ns with
 | nil => simp [encN]
 | cons n ns ih =>
  have := (putN_length n).2;simp only [encN, List.flatMap_cons, List.length_append, List.length_cons] at *;omega
theorem encT_len (ts : List (List UInt8)) (h : ∀ t ∈ ts, t.length ≤ 24) : (encT ts).length ≤ 34 * ts.length := by
 induction ts with
 | nil => simp [encT]
 | cons t ts ih =>
  have h1 := (putN_length t.length).2;have h2 := h t (by simp);have h3 := ih (fun u hu => h u (by simp [hu]));simp only [encT, putT, List.flatMap_cons, List.length_append, List.length_cons] at *;omega
theorem nums_take (x : Sp) (k : Nat) (h : k < 5) : (nums x).take (k + 1) = (nums x).take k ++ [(nums x).getD k 0] := by
 have hl : k < (nums x).length := by simpa [nums] using h
 rw [List.take_succ_eq_append_getElem hl];simp [List.getD, List.getElem?_eq_getElem hl]
theorem txts_take (x : Sp) (k : Nat) (h : k < 3) : (txts x).take (k + 1) = (txts x).take k ++ [(txts x).getD k []] := by
 have hl : k < (txts x).length := by simpa [txts] using h
 rw [List.take_succ_eq_append_getElem hl];simp [List.getD, List.getElem?_eq_getElem hl]
theorem nums_le {x : Sp} (hx : x.fits) (k : Nat) : (nums x).getD k 0 ≤ 9223372036854775807 := by
 obtain ⟨t1, t2, i1, i2, p1, p2, s1, s2, d1, d2, _, _, _⟩ := hx;match k with
 | 0 => simp [nums]; omega
 | 1 => simp [nums]; omega
 | 2 => simp [nums]; omega
 | 3 => simp [nums]; omega
 | 4 => simp [nums]; omega
 | k + 5 => simp [nums]
theorem txts_le {x : Sp} (h : mayB x = true) (k : Nat) : ((txts x).getD k []).length ≤ 24 := by
 have hp := mayB_parts h;have h1 := nameB_len hp.2.2.2.1;have h2 := nameB_len hp.2.2.2.2.1;match k with
 | 0 => simp [txts]; omega
 | 1 => simp [txts]; omega
 | 2 => simp [txts]; omega
 | k + 3 => simp [txts]
theorem txts_mem {x : Sp} (h : mayB x = true) : ∀ t ∈ txts x, t.length ≤ 24 := by
 intro t ht;obtain ⟨k, hk, rfl⟩ := List.getElem_of_mem ht;have := txts_le h k;simpa [List.getD, List.getElem?_eq_getElem hk] using this
end M
section
open Go Go.RowKit
attribute [local go_sem ↓] run_index_S
attribute [local go_sem] S_append S_extract
def GoodTo (l : List UInt8) (k : Nat) : Prop := ∀ j (hj : j < l.length), j < k → 33 ≤ l[j].toNat ∧ l[j].toNat ≤ 126
theorem GoodTo.step {l : List UInt8} {k : Nat} (h : GoodTo l k) (hk : k < l.length) (h1 : 33 ≤ B l k) (h2 : B l k ≤ 126) : GoodTo l (k + 1) := by
 intro j hj hjk;by_cases e : j = k
 ·subst e; rw [B_at l j hj] at h1 h2; omega
 ·exact h j hj (by omega)
theorem Jbw (l : List UInt8) (hl : l.length ≤ 9223372036854775807) (w : World) :
  Calls Tryz.prog 84 #[.string (S l)] w fun e w' => e = .returned (.bool (M.nameB l)) ∧ w = w' := by
 by_cases h1 : l.length < 1
 ·go_enter Tryz.func84, Tryz.ntmps84
  go_wp2_with fail;go_ret;exact ⟨ret_bool (M.nameB_short (by omega)).symm, rfl⟩
 ·by_cases h2 : 12 < l.length
  ·go_enter Tryz.func84, Tryz.ntmps84
   go_wp2_with fail;go_ret;exact ⟨ret_bool (M.nameB_short (by omega)).symm, rfl⟩
  ·have d1 : decide ((l.length : Int) < 1) = false := by simp; omega
   have d2 : decide (12 < (l.length : Int)) = false := by simp; omega
   go_enter Tryz.func84, Tryz.ntmps84;go_wp2_with fail;go_loop [14] (fun i => ∃ k : Nat, k ≤ l.length ∧ i = .int .i64 k ∧ GoodTo l k) (fun i => l.length - (intOf i).toNat)
   case atStart => exact ⟨0, Nat.zero_le _, rfl, fun j hj h => by omega⟩
   case round =>
    obtain ⟨k, hk, rfl, hg⟩ := hrel;by_cases hkl : k < l.length
    ·have hr := Jan l k
     by_cases hlo : B l k < 33
     ·go_wp2_with fail
      go_ret;exact ⟨ret_bool (M.nameB_byte k hkl (by rw [B_at l k hkl] at hlo; omega)).symm, rfl⟩
     ·have dl : decide (B l k < 33) = false := by simpa using hlo
      by_cases hhi : 126 < B l k
      ·go_wp2_with fail
       go_ret;exact ⟨ret_bool (M.nameB_byte k hkl (by rw [B_at l k hkl] at hhi; omega)).symm, rfl⟩
      ·go_wp2_with fail
       go_round
       case rel => exact ⟨k + 1, by omega, by go_num, hg.step hkl (by omega) (by omega)⟩
       case measure => simp [intOf]; omega
    ·obtain rfl : k = l.length := by omega
     go_wp2_with fail;go_ret;exact ⟨ret_bool (M.nameB_true (by omega) (by omega) (fun j hj => hg j hj hj)).symm, rfl⟩
theorem Jbd (l : List UInt8) (hl : l.length ≤ 9223372036854775807) (w : World) :
  Calls Tryz.prog 171 #[.string (S l)] w fun e w' => e = .returned (.bool (M.nameB l)) ∧ w = w' := by
 by_cases h1 : l.length < 1
 ·go_enter Tryz.func171, Tryz.ntmps171
  go_wp2_with fail;go_ret;exact ⟨ret_bool (M.nameB_short (by omega)).symm, rfl⟩
 ·by_cases h2 : 12 < l.length
  ·go_enter Tryz.func171, Tryz.ntmps171
   go_wp2_with fail;go_ret;exact ⟨ret_bool (M.nameB_short (by omega)).symm, rfl⟩
  ·have d1 : decide ((l.length : Int) < 1) = false := by simp; omega
   have d2 : decide (12 < (l.length : Int)) = false := by simp; omega
   go_enter Tryz.func171, Tryz.ntmps171;go_wp2_with fail;go_loop [3] (fun i => ∃ k : Nat, k ≤ l.length ∧ i = .int .i64 k ∧ GoodTo l k) (fun i => l.length - (intOf i).toNat)
   case atStart => exact ⟨0, Nat.zero_le _, rfl, fun j hj h => by omega⟩
   case round =>
    obtain ⟨k, hk, rfl, hg⟩ := hrel;by_cases hkl : k < l.length
    ·have hr := Jan l k
     by_cases hlo : B l k < 33
     ·go_wp2_with fail
      go_ret;exact ⟨ret_bool (M.nameB_byte k hkl (by rw [B_at l k hkl] at hlo; omega)).symm, rfl⟩
     ·have dl : decide (B l k < 33) = false := by simpa using hlo
      by_cases hhi : 126 < B l k
      ·go_wp2_with fail
       go_ret;exact ⟨ret_bool (M.nameB_byte k hkl (by rw [B_at l k hkl] at hhi; omega)).symm, rfl⟩
      ·go_wp2_with fail
       go_round
       case rel => exact ⟨k + 1, by omega, by go_num, hg.step hkl (by omega) (by omega)⟩
       case measure => simp [intOf]; omega
    ·obtain rfl : k = l.length := by omega
     go_wp2_with fail;go_ret;exact ⟨ret_bool (M.nameB_true (by omega) (by omega) (fun j hj => hg j hj hj)).symm, rfl⟩
theorem Jbf (n a b : Int) (w : World) :
  Calls Tryz.prog 83 #[.int .i64 n, .int .i64 a, .int .i64 b] w fun e w' => e = .returned (.bool (M.win n a b)) ∧ w = w' := by
 by_cases h1 : a ≤ n
 ·by_cases h2 : n ≤ b
  ·go_enter Tryz.func83, Tryz.ntmps83
   go_wp2_with fail;go_ret;exact ⟨ret_bool (M.win_true.2 ⟨h1, h2⟩).symm, rfl⟩
  ·go_enter Tryz.func83, Tryz.ntmps83
   go_wp2_with fail;go_ret;exact ⟨ret_bool (M.win_false.2 (by omega)).symm, rfl⟩
 ·go_enter Tryz.func83, Tryz.ntmps83
  go_wp2_with fail;go_ret;exact ⟨ret_bool (M.win_false.2 (by omega)).symm, rfl⟩
theorem Jbe (n a b : Int) (w : World) :
  Calls Tryz.prog 170 #[.int .i64 n, .int .i64 a, .int .i64 b] w fun e w' => e = .returned (.bool (M.win n a b)) ∧ w = w' := by
 by_cases h1 : a ≤ n
 ·by_cases h2 : n ≤ b
  ·go_enter Tryz.func170, Tryz.ntmps170
   go_wp2_with fail;go_ret;exact ⟨ret_bool (M.win_true.2 ⟨h1, h2⟩).symm, rfl⟩
  ·go_enter Tryz.func170, Tryz.ntmps170
   go_wp2_with fail;go_ret;exact ⟨ret_bool (M.win_false.2 (by omega)).symm, rfl⟩
 ·go_enter Tryz.func170, Tryz.ntmps170
  go_wp2_with fail;go_ret;exact ⟨ret_bool (M.win_false.2 (by omega)).symm, rfl⟩
theorem Jpe (x : M.Sp) (hx : x.fits) (w : World)
  (h_t : M.win x.trace 1 2147483647 = false) :
  Calls Tryz.prog 33 #[.agg #[.int .i64 x.trace, .int .i64 x.id, .int .i64 x.parent, .string (S x.svc), .string (S x.host), .int .i64 x.start, .int .i64 x.dur, .string (S x.note)]] w fun e w' => e = .returned (.int .i64 2) ∧ Below w.heap.size w w' := by
 have l1 := hx.l1;have l2 := hx.l2;have l3 := hx.l3;go_enter Tryz.func33, Tryz.ntmps33;go_wp2_with (first | (go_at_call 83; refine (Jbf _ _ _ _).mono ?_; rintro e w' ⟨rfl, rfl⟩) | (go_at_call 84; refine (Jbw _ (by omega) _).mono ?_; rintro e w' ⟨rfl, rfl⟩))
 go_ret;exact ⟨rfl, Qa _⟩
theorem Jpf (x : M.Sp) (hx : x.fits) (w : World)
  (h_t : M.win x.trace 1 2147483647 = true)
  (h_i : M.win x.id 1 2147483647 = false) :
  Calls Tryz.prog 33 #[.agg #[.int .i64 x.trace, .int .i64 x.id, .int .i64 x.parent, .string (S x.svc), .string (S x.host), .int .i64 x.start, .int .i64 x.dur, .string (S x.note)]] w fun e w' => e = .returned (.int .i64 2) ∧ Below w.heap.size w w' := by
 have l1 := hx.l1;have l2 := hx.l2;have l3 := hx.l3;go_enter Tryz.func33, Tryz.ntmps33;go_wp2_with (first | (go_at_call 83; refine (Jbf _ _ _ _).mono ?_; rintro e w' ⟨rfl, rfl⟩) | (go_at_call 84; refine (Jbw _ (by omega) _).mono ?_; rintro e w' ⟨rfl, rfl⟩))
 go_ret;exact ⟨rfl, Qa _⟩
theorem Jpg (x : M.Sp) (hx : x.fits) (w : World)
  (h_t : M.win x.trace 1 2147483647 = true)
  (h_i : M.win x.id 1 2147483647 = true)
  (h_p : M.win x.parent 0 2147483647 = false) :
  Calls Tryz.prog 33 #[.agg #[.int .i64 x.trace, .int .i64 x.id, .int .i64 x.parent, .string (S x.svc), .string (S x.host), .int .i64 x.start, .int .i64 x.dur, .string (S x.note)]] w fun e w' => e = .returned (.int .i64 2) ∧ Below w.heap.size w w' := by
 have l1 := hx.l1;have l2 := hx.l2;have l3 := hx.l3;go_enter Tryz.func33, Tryz.ntmps33;go_wp2_with (first | (go_at_call 83; refine (Jbf _ _ _ _).mono ?_; rintro e w' ⟨rfl, rfl⟩) | (go_at_call 84; refine (Jbw _ (by omega) _).mono ?_; rintro e w' ⟨rfl, rfl⟩))
 go_ret;exact ⟨rfl, Qa _⟩
theorem Jph (x : M.Sp) (hx : x.fits) (w : World)
  (h_t : M.win x.trace 1 2147483647 = true)
  (h_i : M.win x.id 1 2147483647 = true)
  (h_p : M.win x.parent 0 2147483647 = true)
  (h_s : M.nameB x.svc = false) :
  Calls Tryz.prog 33 #[.agg #[.int .i64 x.trace, .int .i64 x.id, .int .i64 x.parent, .string (S x.svc), .string (S x.host), .int .i64 x.start, .int .i64 x.dur, .string (S x.note)]] w fun e w' => e = .returned (.int .i64 2) ∧ Below w.heap.size w w' := by
 have l1 := hx.l1;have l2 := hx.l2;have l3 := hx.l3;go_enter Tryz.func33, Tryz.ntmps33;go_wp2_with (first | (go_at_call 83; refine (Jbf _ _ _ _).mono ?_; rintro e w' ⟨rfl, rfl⟩) | (go_at_call 84; refine (Jbw _ (by omega) _).mono ?_; rintro e w' ⟨rfl, rfl⟩))
 go_ret;exact ⟨rfl, Qa _⟩
theorem Jpi (x : M.Sp) (hx : x.fits) (w : World)
  (h_t : M.win x.trace 1 2147483647 = true)
  (h_i : M.win x.id 1 2147483647 = true)
  (h_p : M.win x.parent 0 2147483647 = true)
  (h_s : M.nameB x.svc = true)
  (h_h : M.nameB x.host = false) :
  Calls Tryz.prog 33 #[.agg #[.int .i64 x.trace, .int .i64 x.id, .int .i64 x.parent, .string (S x.svc), .string (S x.host), .int .i64 x.start, .int .i64 x.dur, .string (S x.note)]] w fun e w' => e = .returned (.int .i64 2) ∧ Below w.heap.size w w' := by
 have l1 := hx.l1;have l2 := hx.l2;have l3 := hx.l3;go_enter Tryz.func33, Tryz.ntmps33;go_wp2_with (first | (go_at_call 83; refine (Jbf _ _ _ _).mono ?_; rintro e w' ⟨rfl, rfl⟩) | (go_at_call 84; refine (Jbw _ (by omega) _).mono ?_; rintro e w' ⟨rfl, rfl⟩))
 go_ret;exact ⟨rfl, Qa _⟩
theorem Jpj (x : M.Sp) (hx : x.fits) (w : World)
  (h_t : M.win x.trace 1 2147483647 = true)
  (h_i : M.win x.id 1 2147483647 = true)
  (h_p : M.win x.parent 0 2147483647 = true)
  (h_s : M.nameB x.svc = true)
  (h_h : M.nameB x.host = true)
  (h_n : ¬ x.note.length ≤ 24) :
  Calls Tryz.prog 33 #[.agg #[.int .i64 x.trace, .int .i64 x.id, .int .i64 x.parent, .string (S x.svc), .string (S x.host), .int .i64 x.start, .int .i64 x.dur, .string (S x.note)]] w fun e w' => e = .returned (.int .i64 2) ∧ Below w.heap.size w w' := by
 have l1 := hx.l1;have l2 := hx.l2;have l3 := hx.l3;have dn : decide (24 < (x.note.length : Int)) = true := by simp; omega
 have dn2 : decide ((x.note.length : Int) ≤ 24) = false := by simp; omega
 go_enter Tryz.func33, Tryz.ntmps33;go_wp2_with (first | (go_at_call 83; refine (Jbf _ _ _ _).mono ?_; rintro e w' ⟨rfl, rfl⟩) | (go_at_call 84; refine (Jbw _ (by omega) _).mono ?_; rintro e w' ⟨rfl, rfl⟩))
 go_ret;exact ⟨rfl, Qa _⟩
theorem Jpk (x : M.Sp) (hx : x.fits) (w : World)
  (h_t : M.win x.trace 1 2147483647 = true)
  (h_i : M.win x.id 1 2147483647 = true)
  (h_p : M.win x.parent 0 2147483647 = true)
  (h_s : M.nameB x.svc = true)
  (h_h : M.nameB x.host = true)
  (h_n : x.note.length ≤ 24)
  (h_b : M.win x.start 0 1073741824 = false) :
  Calls Tryz.prog 33 #[.agg #[.int .i64 x.trace, .int .i64 x.id, .int .i64 x.parent, .string (S x.svc), .string (S x.host), .int .i64 x.start, .int .i64 x.dur, .string (S x.note)]] w fun e w' => e = .returned (.int .i64 2) ∧ Below w.heap.size w w' := by
 have l1 := hx.l1;have l2 := hx.l2;have l3 := hx.l3;have dn : decide (24 < (x.note.length : Int)) = false := by simp; omega
 have dn2 : decide ((x.note.length : Int) ≤ 24) = true := by simp; omega
 go_enter Tryz.func33, Tryz.ntmps33;go_wp2_with (first | (go_at_call 83; refine (Jbf _ _ _ _).mono ?_; rintro e w' ⟨rfl, rfl⟩) | (go_at_call 84; refine (Jbw _ (by omega) _).mono ?_; rintro e w' ⟨rfl, rfl⟩))
 go_ret;exact ⟨rfl, Qa _⟩
theorem Jpl (x : M.Sp) (hx : x.fits) (w : World)
  (h_t : M.win x.trace 1 2147483647 = true)
  (h_i : M.win x.id 1 2147483647 = true)
  (h_p : M.win x.parent 0 2147483647 = true)
  (h_s : M.nameB x.svc = true)
  (h_h : M.nameB x.host = true)
  (h_n : x.note.length ≤ 24)
  (h_b : M.win x.start 0 1073741824 = true)
  (h_d : M.win x.dur 0 1073741824 = false) :
  Calls Tryz.prog 33 #[.agg #[.int .i64 x.trace, .int .i64 x.id, .int .i64 x.parent, .string (S x.svc), .string (S x.host), .int .i64 x.start, .int .i64 x.dur, .string (S x.note)]] w fun e w' => e = .returned (.int .i64 2) ∧ Below w.heap.size w w' := by
 have l1 := hx.l1;have l2 := hx.l2;have l3 := hx.l3;have dn : decide (24 < (x.note.length : Int)) = false := by simp; omega
 have dn2 : decide ((x.note.length : Int) ≤ 24) = true := by simp; omega
 go_enter Tryz.func33, Tryz.ntmps33;go_wp2_with (first | (go_at_call 83; refine (Jbf _ _ _ _).mono ?_; rintro e w' ⟨rfl, rfl⟩) | (go_at_call 84; refine (Jbw _ (by omega) _).mono ?_; rintro e w' ⟨rfl, rfl⟩))
 go_ret;exact ⟨rfl, Qa _⟩
theorem Jnm (x : M.Sp) (hx : x.fits) (w : World)
  (h_t : M.win x.trace 1 2147483647 = true)
  (h_i : M.win x.id 1 2147483647 = true)
  (h_p : M.win x.parent 0 2147483647 = true)
  (h_s : M.nameB x.svc = true)
  (h_h : M.nameB x.host = true)
  (h_n : x.note.length ≤ 24)
  (h_b : M.win x.start 0 1073741824 = true)
  (h_d : M.win x.dur 0 1073741824 = true) :
  Calls Tryz.prog 33 #[.agg #[.int .i64 x.trace, .int .i64 x.id, .int .i64 x.parent, .string (S x.svc), .string (S x.host), .int .i64 x.start, .int .i64 x.dur, .string (S x.note)]] w fun e w' => e = .returned (.int .i64 0) ∧ Below w.heap.size w w' := by
 have l1 := hx.l1;have l2 := hx.l2;have l3 := hx.l3;have dn : decide (24 < (x.note.length : Int)) = false := by simp; omega
 have dn2 : decide ((x.note.length : Int) ≤ 24) = true := by simp; omega
 go_enter Tryz.func33, Tryz.ntmps33;go_wp2_with (first | (go_at_call 83; refine (Jbf _ _ _ _).mono ?_; rintro e w' ⟨rfl, rfl⟩) | (go_at_call 84; refine (Jbw _ (by omega) _).mono ?_; rintro e w' ⟨rfl, rfl⟩))
 go_ret;exact ⟨rfl, Qa _⟩
theorem Jep (x : M.Sp) (hx : x.fits) (w : World) :
  Calls Tryz.prog 33 #[.agg #[.int .i64 x.trace, .int .i64 x.id, .int .i64 x.parent, .string (S x.svc), .string (S x.host), .int .i64 x.start, .int .i64 x.dur, .string (S x.note)]] w fun e w' => e = .returned (.int .i64 (M.errOf (M.mayB x))) ∧ Below w.heap.size w w' := by
 cases h_t : M.win x.trace 1 2147483647
 case false =>
  have hm : M.mayB x = false := by simp only [M.mayB]; simp [h_t]
  rw [hm];exact Jpe x hx w  h_t
 cases h_i : M.win x.id 1 2147483647
 case false =>
  have hm : M.mayB x = false := by simp only [M.mayB]; simp [h_i]
  rw [hm];exact Jpf x hx w h_t h_i
 cases h_p : M.win x.parent 0 2147483647
 case false =>
  have hm : M.mayB x = false := by simp only [M.mayB]; simp [h_p]
  rw [hm];exact Jpg x hx w h_t h_i h_p
 cases h_s : M.nameB x.svc
 case false =>
  have hm : M.mayB x = false := by simp only [M.mayB]; simp [h_s]
  rw [hm];exact Jph x hx w h_t h_i h_p h_s
 cases h_h : M.nameB x.host
 case false =>
  have hm : M.mayB x = false := by simp only [M.mayB]; simp [h_h]
  rw [hm];exact Jpi x hx w h_t h_i h_p h_s h_h
 by_cases h_n : x.note.length ≤ 24
 case neg =>
  have hm : M.mayB x = false := by simp only [M.mayB]; simp [h_n]
  rw [hm];exact Jpj x hx w h_t h_i h_p h_s h_h h_n
 cases h_b : M.win x.start 0 1073741824
 case false =>
  have hm : M.mayB x = false := by simp only [M.mayB]; simp [h_b]
  rw [hm];exact Jpk x hx w h_t h_i h_p h_s h_h h_n h_b
 cases h_d : M.win x.dur 0 1073741824
 case false =>
  have hm : M.mayB x = false := by simp only [M.mayB]; simp [h_d]
  rw [hm];exact Jpl x hx w h_t h_i h_p h_s h_h h_n h_b h_d
 have hm : M.mayB x = true := M.mayB_all h_t h_i h_p h_s h_h h_b h_d h_n;rw [hm];exact Jnm x hx w h_t h_i h_p h_s h_h h_n h_b h_d
theorem Jnn (x : M.Sp) (hx : x.fits) (w : World)
  (h_t : M.win x.trace 1 2147483647 = false) :
  Calls Tryz.prog 138 #[.agg #[.int .i64 x.trace, .int .i64 x.id, .int .i64 x.parent, .string (S x.svc), .string (S x.host), .int .i64 x.start, .int .i64 x.dur, .string (S x.note)]] w fun e w' => e = .returned (.bool false) ∧ Below w.heap.size w w' := by
 have l1 := hx.l1;have l2 := hx.l2;have l3 := hx.l3;go_enter Tryz.func138, Tryz.ntmps138;go_wp2_with (first | (go_at_call 170; refine (Jbe _ _ _ _).mono ?_; rintro e w' ⟨rfl, rfl⟩) | (go_at_call 171; refine (Jbd _ (by omega) _).mono ?_; rintro e w' ⟨rfl, rfl⟩))
 go_ret;exact ⟨rfl, Qa _⟩
theorem Jno (x : M.Sp) (hx : x.fits) (w : World)
  (h_t : M.win x.trace 1 2147483647 = true)
  (h_i : M.win x.id 1 2147483647 = false) :
  Calls Tryz.prog 138 #[.agg #[.int .i64 x.trace, .int .i64 x.id, .int .i64 x.parent, .string (S x.svc), .string (S x.host), .int .i64 x.start, .int .i64 x.dur, .string (S x.note)]] w fun e w' => e = .returned (.bool false) ∧ Below w.heap.size w w' := by
 have l1 := hx.l1;have l2 := hx.l2;have l3 := hx.l3;go_enter Tryz.func138, Tryz.ntmps138;go_wp2_with (first | (go_at_call 170; refine (Jbe _ _ _ _).mono ?_; rintro e w' ⟨rfl, rfl⟩) | (go_at_call 171; refine (Jbd _ (by omega) _).mono ?_; rintro e w' ⟨rfl, rfl⟩))
 go_ret;exact ⟨rfl, Qa _⟩
theorem Jnp (x : M.Sp) (hx : x.fits) (w : World)
  (h_t : M.win x.trace 1 2147483647 = true)
  (h_i : M.win x.id 1 2147483647 = true)
  (h_p : M.win x.parent 0 2147483647 = false) :
  Calls Tryz.prog 138 #[.agg #[.int .i64 x.trace, .int .i64 x.id, .int .i64 x.parent, .string (S x.svc), .string (S x.host), .int .i64 x.start, .int .i64 x.dur, .string (S x.note)]] w fun e w' => e = .returned (.bool false) ∧ Below w.heap.size w w' := by
 have l1 := hx.l1;have l2 := hx.l2;have l3 := hx.l3;go_enter Tryz.func138, Tryz.ntmps138;go_wp2_with (first | (go_at_call 170; refine (Jbe _ _ _ _).mono ?_; rintro e w' ⟨rfl, rfl⟩) | (go_at_call 171; refine (Jbd _ (by omega) _).mono ?_; rintro e w' ⟨rfl, rfl⟩))
 go_ret;exact ⟨rfl, Qa _⟩
theorem Jnq (x : M.Sp) (hx : x.fits) (w : World)
  (h_t : M.win x.trace 1 2147483647 = true)
  (h_i : M.win x.id 1 2147483647 = true)
  (h_p : M.win x.parent 0 2147483647 = true)
  (h_s : M.nameB x.svc = false) :
  Calls Tryz.prog 138 #[.agg #[.int .i64 x.trace, .int .i64 x.id, .int .i64 x.parent, .string (S x.svc), .string (S x.host), .int .i64 x.start, .int .i64 x.dur, .string (S x.note)]] w fun e w' => e = .returned (.bool false) ∧ Below w.heap.size w w' := by
 have l1 := hx.l1;have l2 := hx.l2;have l3 := hx.l3;go_enter Tryz.func138, Tryz.ntmps138;go_wp2_with (first | (go_at_call 170; refine (Jbe _ _ _ _).mono ?_; rintro e w' ⟨rfl, rfl⟩) | (go_at_call 171; refine (Jbd _ (by omega) _).mono ?_; rintro e w' ⟨rfl, rfl⟩))
 go_ret;exact ⟨rfl, Qa _⟩
theorem Jnr (x : M.Sp) (hx : x.fits) (w : World)
  (h_t : M.win x.trace 1 2147483647 = true)
  (h_i : M.win x.id 1 2147483647 = true)
  (h_p : M.win x.parent 0 2147483647 = true)
  (h_s : M.nameB x.svc = true)
  (h_h : M.nameB x.host = false) :
  Calls Tryz.prog 138 #[.agg #[.int .i64 x.trace, .int .i64 x.id, .int .i64 x.parent, .string (S x.svc), .string (S x.host), .int .i64 x.start, .int .i64 x.dur, .string (S x.note)]] w fun e w' => e = .returned (.bool false) ∧ Below w.heap.size w w' := by
 have l1 := hx.l1;have l2 := hx.l2;have l3 := hx.l3;go_enter Tryz.func138, Tryz.ntmps138;go_wp2_with (first | (go_at_call 170; refine (Jbe _ _ _ _).mono ?_; rintro e w' ⟨rfl, rfl⟩) | (go_at_call 171; refine (Jbd _ (by omega) _).mono ?_; rintro e w' ⟨rfl, rfl⟩))
 go_ret;exact ⟨rfl, Qa _⟩
theorem Jns (x : M.Sp) (hx : x.fits) (w : World)
  (h_t : M.win x.trace 1 2147483647 = true)
  (h_i : M.win x.id 1 2147483647 = true)
  (h_p : M.win x.parent 0 2147483647 = true)
  (h_s : M.nameB x.svc = true)
  (h_h : M.nameB x.host = true)
  (h_b : M.win x.start 0 1073741824 = false) :
  Calls Tryz.prog 138 #[.agg #[.int .i64 x.trace, .int .i64 x.id, .int .i64 x.parent, .string (S x.svc), .string (S x.host), .int .i64 x.start, .int .i64 x.dur, .string (S x.note)]] w fun e w' => e = .returned (.bool false) ∧ Below w.heap.size w w' := by
 have l1 := hx.l1;have l2 := hx.l2;have l3 := hx.l3;go_enter Tryz.func138, Tryz.ntmps138;go_wp2_with (first | (go_at_call 170; refine (Jbe _ _ _ _).mono ?_; rintro e w' ⟨rfl, rfl⟩) | (go_at_call 171; refine (Jbd _ (by omega) _).mono ?_; rintro e w' ⟨rfl, rfl⟩))
 go_ret;exact ⟨rfl, Qa _⟩
theorem Jnt (x : M.Sp) (hx : x.fits) (w : World)
  (h_t : M.win x.trace 1 2147483647 = true)
  (h_i : M.win x.id 1 2147483647 = true)
  (h_p : M.win x.parent 0 2147483647 = true)
  (h_s : M.nameB x.svc = true)
  (h_h : M.nameB x.host = true)
  (h_b : M.win x.start 0 1073741824 = true)
  (h_d : M.win x.dur 0 1073741824 = false) :
  Calls Tryz.prog 138 #[.agg #[.int .i64 x.trace, .int .i64 x.id, .int .i64 x.parent, .string (S x.svc), .string (S x.host), .int .i64 x.start, .int .i64 x.dur, .string (S x.note)]] w fun e w' => e = .returned (.bool false) ∧ Below w.heap.size w w' := by
 have l1 := hx.l1;have l2 := hx.l2;have l3 := hx.l3;go_enter Tryz.func138, Tryz.ntmps138;go_wp2_with (first | (go_at_call 170; refine (Jbe _ _ _ _).mono ?_; rintro e w' ⟨rfl, rfl⟩) | (go_at_call 171; refine (Jbd _ (by omega) _).mono ?_; rintro e w' ⟨rfl, rfl⟩))
 go_ret;exact ⟨rfl, Qa _⟩
theorem Jnu (x : M.Sp) (hx : x.fits) (w : World)
  (h_t : M.win x.trace 1 2147483647 = true)
  (h_i : M.win x.id 1 2147483647 = true)
  (h_p : M.win x.parent 0 2147483647 = true)
  (h_s : M.nameB x.svc = true)
  (h_h : M.nameB x.host = true)
  (h_b : M.win x.start 0 1073741824 = true)
  (h_d : M.win x.dur 0 1073741824 = true)
  (h_n : ¬ x.note.length ≤ 24) :
  Calls Tryz.prog 138 #[.agg #[.int .i64 x.trace, .int .i64 x.id, .int .i64 x.parent, .string (S x.svc), .string (S x.host), .int .i64 x.start, .int .i64 x.dur, .string (S x.note)]] w fun e w' => e = .returned (.bool false) ∧ Below w.heap.size w w' := by
 have l1 := hx.l1;have l2 := hx.l2;have l3 := hx.l3;have dn : decide (24 < (x.note.length : Int)) = true := by simp; omega
 have dn2 : decide ((x.note.length : Int) ≤ 24) = false := by simp; omega
 go_enter Tryz.func138, Tryz.ntmps138;go_wp2_with (first | (go_at_call 170; refine (Jbe _ _ _ _).mono ?_; rintro e w' ⟨rfl, rfl⟩) | (go_at_call 171; refine (Jbd _ (by omega) _).mono ?_; rintro e w' ⟨rfl, rfl⟩))
 go_ret;exact ⟨rfl, Qa _⟩
theorem Jl5 (x : M.Sp) (hx : x.fits) (w : World)
  (h_t : M.win x.trace 1 2147483647 = true)
  (h_i : M.win x.id 1 2147483647 = true)
  (h_p : M.win x.parent 0 2147483647 = true)
  (h_s : M.nameB x.svc = true)
  (h_h : M.nameB x.host = true)
  (h_b : M.win x.start 0 1073741824 = true)
  (h_d : M.win x.dur 0 1073741824 = true)
  (h_n : x.note.length ≤ 24) :
  Calls Tryz.prog 138 #[.agg #[.int .i64 x.trace, .int .i64 x.id, .int .i64 x.parent, .string (S x.svc), .string (S x.host), .int .i64 x.start, .int .i64 x.dur, .string (S x.note)]] w fun e w' => e = .returned (.bool true) ∧ Below w.heap.size w w' := by
 have l1 := hx.l1;have l2 := hx.l2;have l3 := hx.l3;have dn : decide (24 < (x.note.length : Int)) = false := by simp; omega
 have dn2 : decide ((x.note.length : Int) ≤ 24) = true := by simp; omega
 go_enter Tryz.func138, Tryz.ntmps138;go_wp2_with (first | (go_at_call 170; refine (Jbe _ _ _ _).mono ?_; rintro e w' ⟨rfl, rfl⟩) | (go_at_call 171; refine (Jbd _ (by omega) _).mono ?_; rintro e w' ⟨rfl, rfl⟩))
 go_ret;exact ⟨rfl, Qa _⟩
theorem Jd6 (x : M.Sp) (hx : x.fits) (w : World) :
  Calls Tryz.prog 138 #[.agg #[.int .i64 x.trace, .int .i64 x.id, .int .i64 x.parent, .string (S x.svc), .string (S x.host), .int .i64 x.start, .int .i64 x.dur, .string (S x.note)]] w fun e w' => e = .returned (.bool (M.mayB x)) ∧ Below w.heap.size w w' := by
 cases h_t : M.win x.trace 1 2147483647
 case false =>
  have hm : M.mayB x = false := by simp only [M.mayB]; simp [h_t]
  rw [hm];exact Jnn x hx w  h_t
 cases h_i : M.win x.id 1 2147483647
 case false =>
  have hm : M.mayB x = false := by simp only [M.mayB]; simp [h_i]
  rw [hm];exact Jno x hx w h_t h_i
 cases h_p : M.win x.parent 0 2147483647
 case false =>
  have hm : M.mayB x = false := by simp only [M.mayB]; simp [h_p]
  rw [hm];exact Jnp x hx w h_t h_i h_p
 cases h_s : M.nameB x.svc
 case false =>
  have hm : M.mayB x = false := by simp only [M.mayB]; simp [h_s]
  rw [hm];exact Jnq x hx w h_t h_i h_p h_s
 cases h_h : M.nameB x.host
 case false =>
  have hm : M.mayB x = false := by simp only [M.mayB]; simp [h_h]
  rw [hm];exact Jnr x hx w h_t h_i h_p h_s h_h
 cases h_b : M.win x.start 0 1073741824
 case false =>
  have hm : M.mayB x = false := by simp only [M.mayB]; simp [h_b]
  rw [hm];exact Jns x hx w h_t h_i h_p h_s h_h h_b
 cases h_d : M.win x.dur 0 1073741824
 case false =>
  have hm : M.mayB x = false := by simp only [M.mayB]; simp [h_d]
  rw [hm];exact Jnt x hx w h_t h_i h_p h_s h_h h_b h_d
 by_cases h_n : x.note.length ≤ 24
 case neg =>
  have hm : M.mayB x = false := by simp only [M.mayB]; simp [h_n]
  rw [hm];exact Jnu x hx w h_t h_i h_p h_s h_h h_b h_d h_n
 have hm : M.mayB x = true := M.mayB_all h_t h_i h_p h_s h_h h_b h_d h_n;rw [hm];exact Jl5 x hx w h_t h_i h_p h_s h_h h_b h_d h_n
end
section
open Go Go.RowKit
attribute [local go_sem ↓] run_index_S
attribute [local go_sem] S_append S_extract
theorem Jfu {W w1 : World} (hb : Below W.heap.size W w1) : (∀ b o, b < W.heap.size → w1.cell? ⟨b, o, none⟩ = W.cell? ⟨b, o, none⟩) ∧ (∀ b o, b < W.heap.size → w1.frozen? ⟨b, o, none⟩ = W.frozen? ⟨b, o, none⟩) :=
 ⟨fun b o h => hb.cell (p := ⟨b, o, none⟩) h, fun b o h => hb.frozen (p := ⟨b, o, none⟩) h⟩
theorem Jl6 (x : M.Sp) (hx : x.fits) (hm : M.mayB x = false) (w : World) :
  Calls Tryz.prog 67 #[.agg #[.int .i64 x.trace, .int .i64 x.id, .int .i64 x.parent, .string (S x.svc), .string (S x.host), .int .i64 x.start, .int .i64 x.dur, .string (S x.note)]] w fun e w' => e = .returned (.tuple #[.string ⟨#[]⟩, .int .i64 2]) ∧ Below w.heap.size w w' := by
 have cc := fun W => Jep x hx W
 rw [hm] at cc;have CC := Qh cc;clear cc;go_enter Tryz.func67, Tryz.ntmps67;go_wp2_with fail;with_reducible refine (CC.o _).mono ?_
 rintro e w1 ⟨rfl, hb1⟩;simp only [M.errOf];go_wp2_with fail;go_ret2
 exact ⟨rfl, Jaa (Qa _) hb1⟩
theorem ret_se {a b : List UInt8} {n : Int} (h : a = b) : Ending.returned (.tuple #[.string ⟨a.toArray⟩, .int .i64 n]) = .returned (.tuple #[.string ⟨b.toArray⟩, .int .i64 n]) := by rw [h]
structure SpAt (x : M.Sp) (w : World) (b : Nat) : Prop where
 c0 : w.cell? ⟨b, 0, none⟩ = some (.int .i64 x.trace)
 c1 : w.cell? ⟨b, 1, none⟩ = some (.int .i64 x.id)
 c2 : w.cell? ⟨b, 2, none⟩ = some (.int .i64 x.parent)
 c3 : w.cell? ⟨b, 3, none⟩ = some (.string (S x.svc))
 c4 : w.cell? ⟨b, 4, none⟩ = some (.string (S x.host))
 c5 : w.cell? ⟨b, 5, none⟩ = some (.int .i64 x.start)
 c6 : w.cell? ⟨b, 6, none⟩ = some (.int .i64 x.dur)
 c7 : w.cell? ⟨b, 7, none⟩ = some (.string (S x.note))
 at_ : b < w.heap.size
theorem SpAt.below {x : M.Sp} {w w' : World} {b : Nat} (h : SpAt x w b) (hb : Below w.heap.size w w') : SpAt x w' b := by
 obtain ⟨c, f⟩ := Jfu hb;exact ⟨by rw [c _ _ h.at_]; exact h.c0, by rw [c _ _ h.at_]; exact h.c1, by rw [c _ _ h.at_]; exact h.c2, by rw [c _ _ h.at_]; exact h.c3, by rw [c _ _ h.at_]; exact h.c4, by rw [c _ _ h.at_]; exact h.c5, by rw [c _ _ h.at_]; exact h.c6, by rw [c _ _ h.at_]; exact h.c7, Nat.lt_of_lt_of_le h.at_ hb.size⟩
theorem SpAt.grown {x : M.Sp} {w : World} {b : Nat} (h : SpAt x w b) (d : Nat) (os : Array Obj) : SpAt x (Sort.grow (redrawn w d) os) b := h.below (below_regrown w d os)
theorem Jnv (x : M.Sp) (w : World) (t : TypeId) : SpAt x (w.alloc (.cells #[.int .i64 x.trace, .int .i64 x.id, .int .i64 x.parent, .string (S x.svc), .string (S x.host), .int .i64 x.start, .int .i64 x.dur, .string (S x.note)] t)) w.heap.size := by
 refine ⟨?_, ?_, ?_, ?_, ?_, ?_, ?_, ?_, by simp⟩ <;> (rw [Jb3]; rfl)
structure EncAt (x : M.Sp) (w : World) (a : Nat) : Prop where
 s : w.cell? ⟨a, 3, none⟩ = some (.string (S x.svc))
 h : w.cell? ⟨a, 4, none⟩ = some (.string (S x.host))
 n : w.cell? ⟨a, 7, none⟩ = some (.string (S x.note))
 at_ : a < w.heap.size
theorem EncAt.below {x : M.Sp} {w w' : World} {a : Nat} (h : EncAt x w a) (hb : Below w.heap.size w w') : EncAt x w' a := by
 obtain ⟨c, f⟩ := Jfu hb;have hs := hb.size;exact ⟨by rw [c _ _ h.at_]; exact h.s, by rw [c _ _ h.at_]; exact h.h, by rw [c _ _ h.at_]; exact h.n, Nat.lt_of_lt_of_le h.at_ hs⟩
structure NumsAt (x : M.Sp) (w : World) (b : Nat) : Prop where
 c : ∀ j, j < 5 → w.cell? ⟨b, j, none⟩ = some (.int .i64 ((M.nums x).getD j 0 : Nat))
 at_ : b < w.heap.size
theorem NumsAt.below {x : M.Sp} {w w' : World} {b : Nat} (h : NumsAt x w b) (hb : Below w.heap.size w w') : NumsAt x w' b := by
 obtain ⟨c, f⟩ := Jfu hb;exact ⟨fun j hj => by rw [c _ _ h.at_]; exact h.c j hj, Nat.lt_of_lt_of_le h.at_ hb.size⟩
structure TxtsAt (x : M.Sp) (w : World) (b : Nat) : Prop where
 c : ∀ j, j < 3 → w.cell? ⟨b, j, none⟩ = some (.string (S ((M.txts x).getD j [])))
 at_ : b < w.heap.size
theorem TxtsAt.below {x : M.Sp} {w w' : World} {b : Nat} (h : TxtsAt x w b) (hb : Below w.heap.size w w') : TxtsAt x w' b := by
 obtain ⟨c, f⟩ := Jfu hb;exact ⟨fun j hj => by rw [c _ _ h.at_]; exact h.c j hj, Nat.lt_of_lt_of_le h.at_ hb.size⟩
theorem Jkv (x : M.Sp) (hm : M.mayB x = true) (w : World) (t : TypeId) : NumsAt x (w.alloc (.cells #[.int .i64 x.trace, .int .i64 x.id, .int .i64 x.parent, .int .i64 x.start, .int .i64 x.dur] t)) w.heap.size := by
 obtain ⟨h1, h2, h3, _, _, h4, h5, _⟩ := M.mayB_parts hm;refine ⟨fun j hj => ?_, by simp⟩;rw [Jb3];match j, hj with
 | 0, _ => simp [M.nums]; omega
 | 1, _ => simp [M.nums]; omega
 | 2, _ => simp [M.nums]; omega
 | 3, _ => simp [M.nums]; omega
 | 4, _ => simp [M.nums]; omega
theorem Jkw (x : M.Sp) (w : World) (t : TypeId) : TxtsAt x (w.alloc (.cells #[.string (S x.svc), .string (S x.host), .string (S x.note)] t)) w.heap.size := by
 refine ⟨fun j hj => ?_, by simp⟩;rw [Jb3];match j, hj with
 | 0, _ => simp [M.txts]
 | 1, _ => simp [M.txts]
 | 2, _ => simp [M.txts]
theorem Jkx (x : M.Sp) (hx : x.fits) (hm : M.mayB x = true) (w : World) :
  Calls Tryz.prog 67 #[.agg #[.int .i64 x.trace, .int .i64 x.id, .int .i64 x.parent, .string (S x.svc), .string (S x.host), .int .i64 x.start, .int .i64 x.dur, .string (S x.note)]] w fun e w' => e = .returned (.tuple #[.string (S (M.enc x)), .int .i64 0]) ∧ Below w.heap.size w w' := by
 have cc := fun W => Jep x hx W
 rw [hm] at cc;have CC := Qh cc;clear cc;have HM := Qh hm;clear hm;go_enter Tryz.func67, Tryz.ntmps67;go_wp2_with fail;with_reducible refine (CC.o _).mono ?_
 rintro e w1 ⟨rfl, hb1⟩;have ea : EncAt x w1 w.heap.size := EncAt.below (w := w.alloc (.cells #[.int .i64 x.trace, .int .i64 x.id, .int .i64 x.parent, .string (S x.svc), .string (S x.host), .int .i64 x.start, .int .i64 x.dur, .string (S x.note)] 39)) ⟨by rw [Jb3]; rfl, by rw [Jb3]; rfl, by rw [Jb3]; rfl, by simp⟩ hb1;obtain ⟨hc1, hf1⟩ := Jfu hb1;simp only [M.errOf];go_wp2_with fail;have hbw : Below w.heap.size w w1 := Jaa (Qa _) hb1;clear hc1 hf1 hb1;go_loopw [5, 27] (fun s i wr => ∃ k : Nat, k ≤ 5 ∧ s = .string ⟨(M.encN ((M.nums x).take k)).toArray⟩ ∧ i = .int .i64 k ∧ Below w.heap.size w wr ∧ EncAt x wr w.heap.size ∧ NumsAt x wr w1.heap.size) (fun _ i _ => 5 - (intOf i).toNat)
 case atStart => exact ⟨0, by omega, rfl, rfl, hbw.alloc hbw.size _, ea.below (Qa _), Jkv x HM.o w1 _⟩
 case round =>
  obtain ⟨k, hk, rfl, rfl, hb, he, hn⟩ := hrel;have HE := Qh he;have HN := Qh hn;clear he hn;by_cases hk5 : k < 5
  ·have hck := HN.o.c k hk5
   have ht := M.nums_take x k hk5;have hle := M.nums_le hx k
   have hlen : (M.encN ((M.nums x).take k)).length ≤ 50 := by
    have := M.encN_len ((M.nums x).take k);have h2 : ((M.nums x).take k).length ≤ k := by simp; omega
    omega
   have hpl := (M.putN_length ((M.nums x).getD k 0)).2;have hs : M.encN ((M.nums x).take (k + 1)) = M.encN ((M.nums x).take k) ++ M.putN ((M.nums x).getD k 0) := by rw [ht, M.encN_snoc]
   have cp := fun W => Jkd ((M.nums x).getD k 0) W hle
   generalize (M.nums x).getD k 0 = n at *;generalize M.encN ((M.nums x).take k) = acc at *;generalize M.putN n = q at *;have HS := Qh hs;have CP := Qh cp;clear hs cp ht;go_wp2_with fail;with_reducible refine (CP.o _).mono ?_
   rintro e w2 ⟨rfl, hb2⟩;go_wp2_with fail;go_roundw
   case rel => exact ⟨k + 1, by omega, by rw [HS.o], by go_num, Jaa hb hb2, HE.o.below hb2, HN.o.below hb2⟩
   case measure => simp [intOf]; omega
  ·have c3 := HE.o.s
   have c4 := HE.o.h;have c7 := HE.o.n;have ek : (M.nums x).take k = M.nums x := List.take_of_length_le (by simp [M.nums]; omega)
   have hlen5 : (M.encN ((M.nums x).take k)).length ≤ 50 := by
    have := M.encN_len ((M.nums x).take k);have h2 : ((M.nums x).take k).length ≤ 5 := by simp; omega
    omega
   rw [ek] at hlen5 ⊢;go_wp2_with fail;clear c3 c4 c7 ek;have htx := Jkw x wr 9;have HTX := Qh htx;clear htx HE HN ea;go_loopw [5, 44] (fun s i wq => ∃ j : Nat, j ≤ 3 ∧ s = .string ⟨(M.encN (M.nums x) ++ M.encT ((M.txts x).take j)).toArray⟩ ∧ i = .int .i64 j ∧ Below w.heap.size w wq ∧ TxtsAt x wq wr.heap.size) (fun _ i _ => 3 - (intOf i).toNat)
   case atStart => exact ⟨0, by omega, by simp [M.encT], rfl, hb.alloc hb.size _, HTX.o⟩
   case round =>
    obtain ⟨j, hj, rfl, rfl, hb4, hn⟩ := hrel;have HN := Qh hn;clear hn HTX;by_cases hj3 : j < 3
    ·have hck := HN.o.c j hj3
     have ht := M.txts_take x j hj3;have hle := M.txts_le HM.o j
     have hlen : (M.encT ((M.txts x).take j)).length ≤ 102 := by
      have := M.encT_len ((M.txts x).take j) (fun t ht => M.txts_mem HM.o t (List.mem_of_mem_take ht));have h2 : ((M.txts x).take j).length ≤ j := by simp; omega
      omega
     have hpl := (M.putN_length ((M.txts x).getD j []).length).2;have hs : M.encN (M.nums x) ++ M.encT ((M.txts x).take (j + 1)) = M.encN (M.nums x) ++ M.encT ((M.txts x).take j) ++ (M.putN ((M.txts x).getD j []).length ++ (M.txts x).getD j []) := by rw [ht, M.encT_snoc, M.putT, List.append_assoc]
     have hla : (M.encN (M.nums x) ++ M.encT ((M.txts x).take j)).length ≤ 152 := by simp only [List.length_append]; omega
     have hlq : (M.putN ((M.txts x).getD j []).length ++ (M.txts x).getD j []).length ≤ 34 := by simp only [List.length_append]; omega
     have cp := fun W => Jjg ((M.txts x).getD j []) W (by omega)
     generalize M.putN ((M.txts x).getD j []).length ++ (M.txts x).getD j [] = q at *;generalize (M.txts x).getD j [] = n at *;generalize M.encN (M.nums x) ++ M.encT ((M.txts x).take j) = acc at *;have HS := Qh hs;have CP := Qh cp;clear hs cp ht hlen hlen5 hpl;go_wp2_with fail;with_reducible refine (CP.o _).mono ?_
     rintro e w2 ⟨rfl, hb2⟩;go_wp2_with fail;go_roundw
     case rel => exact ⟨j + 1, by omega, by rw [HS.o], by go_num, Jaa hb4 hb2, HN.o.below hb2⟩
     case measure => simp [intOf]; omega
    ·obtain rfl : j = 3 := by omega
     go_wp2_with fail;go_ret2
     exact ⟨rfl, hb4⟩
theorem Jh6 (x : M.Sp) (hx : x.fits) (hm : M.mayB x = false) (w : World) :
  Calls Tryz.prog 100 #[.agg #[.int .i64 x.trace, .int .i64 x.id, .int .i64 x.parent, .string (S x.svc), .string (S x.host), .int .i64 x.start, .int .i64 x.dur, .string (S x.note)]] w fun e w' => e = .returned (.tuple #[.string ⟨#[]⟩, .int .i64 2]) ∧ Below w.heap.size w w' := by
 have cc := fun W => Jd6 x hx W
 rw [hm] at cc;have CC := Qh cc;clear cc;go_enter Tryz.func100, Tryz.ntmps100;go_wp2_with fail;with_reducible refine (CC.o _).mono ?_
 rintro e w1 ⟨rfl, hb1⟩;go_wp2_with fail;go_ret2
 exact ⟨rfl, Jaa (Qa _) hb1⟩
theorem Jhm (x : M.Sp) (hx : x.fits) (hm : M.mayB x = true) (w : World) :
  Calls Tryz.prog 100 #[.agg #[.int .i64 x.trace, .int .i64 x.id, .int .i64 x.parent, .string (S x.svc), .string (S x.host), .int .i64 x.start, .int .i64 x.dur, .string (S x.note)]] w fun e w' => e = .returned (.tuple #[.string (S (M.enc x)), .int .i64 0]) ∧ Below w.heap.size w w' := by
 obtain ⟨h1, h2, h3, _, _, h4, h5, _⟩ := M.mayB_parts hm;have l1 := M.txts_le hm 0;have l2 := M.txts_le hm 1;have l3 := M.txts_le hm 2;have cc := fun W => Jd6 x hx W
 rw [hm] at cc;have CC := Qh cc;clear cc hm
 have henc : M.enc x = (((((((M.putN x.trace.toNat ++ M.putN x.id.toNat) ++ M.putN x.parent.toNat) ++ M.putN x.start.toNat) ++ M.putN x.dur.toNat) ++ (M.putN x.svc.length ++ x.svc)) ++ (M.putN x.host.length ++ x.host)) ++ (M.putN x.note.length ++ x.note)) := by
  simp [M.enc, M.encN, M.encT, M.nums, M.txts, M.putT, List.append_assoc]
 have HENC := Qh henc;clear henc;obtain ⟨trace, id, parent, svc, host, start, dur, note⟩ := x;simp only [M.txts, List.getD_cons_zero, List.getD_cons_succ] at *;obtain ⟨t, rfl⟩ := Int.eq_ofNat_of_zero_le (show 0 ≤ trace by omega);obtain ⟨i, rfl⟩ := Int.eq_ofNat_of_zero_le (show 0 ≤ id by omega);obtain ⟨p, rfl⟩ := Int.eq_ofNat_of_zero_le (show 0 ≤ parent by omega);obtain ⟨b, rfl⟩ := Int.eq_ofNat_of_zero_le (show 0 ≤ start by omega);obtain ⟨d, rfl⟩ := Int.eq_ofNat_of_zero_le (show 0 ≤ dur by omega);have p1 := (M.putN_length t).2;have p2 := (M.putN_length i).2;have p3 := (M.putN_length p).2;have p4 := (M.putN_length b).2;have p5 := (M.putN_length d).2;have q1 : (M.putN svc.length ++ svc).length ≤ 34 := by have := (M.putN_length svc.length).2; simp only [List.length_append]; omega
 have q2 : (M.putN host.length ++ host).length ≤ 34 := by have := (M.putN_length host.length).2; simp only [List.length_append]; omega
 have q3 : (M.putN note.length ++ note).length ≤ 34 := by have := (M.putN_length note.length).2; simp only [List.length_append]; omega
 have c1 := fun W => Jbn t W (by omega)
 have c2 := fun W => Jbn i W (by omega)
 have c3 := fun W => Jbn p W (by omega)
 have c4 := fun W => Jbn b W (by omega)
 have c5 := fun W => Jbn d W (by omega)
 have d1 := fun W => Jcu svc W (by omega)
 have d2 := fun W => Jcu host W (by omega)
 have d3 := fun W => Jcu note W (by omega)
 simp only [Int.toNat_natCast] at HENC;generalize M.putN t = e1 at *;generalize M.putN i = e2 at *;generalize M.putN p = e3 at *;generalize M.putN b = e4 at *;generalize M.putN d = e5 at *;generalize M.putN svc.length ++ svc = e6 at *;generalize M.putN host.length ++ host = e7 at *;generalize M.putN note.length ++ note = e8 at *;have C1 := Qh c1;have C2 := Qh c2;have C3 := Qh c3;have C4 := Qh c4;have C5 := Qh c5;have D1 := Qh d1;have D2 := Qh d2;have D3 := Qh d3;clear c1 c2 c3 c4 c5 d1 d2 d3;go_enter Tryz.func100, Tryz.ntmps100;go_wp2_with fail;with_reducible refine (CC.o _).mono ?_
 rintro e w1 ⟨rfl, hb1⟩;have hs1 := (Jnv ⟨t, i, p, svc, host, b, d, note⟩ w 39).below hb1;have HS1 := Qh hs1;clear hs1;have g0 := fun d os => (HS1.o.grown d os).c0
 have g1 := fun d os => (HS1.o.grown d os).c1
 have g2 := fun d os => (HS1.o.grown d os).c2
 have g5 := fun d os => (HS1.o.grown d os).c5
 have g6 := fun d os => (HS1.o.grown d os).c6
 dsimp only at g0 g1 g2 g5 g6
 go_wp2_with fail;refine wp_region_quiet_below (by kernel_rfl) (by kernel_rfl) ?_;repeat (go_big_quiet_step ((first | (go_at_call 143; with_reducible exact Calls.regrown_of (C1.o _)) | (go_at_call 143; with_reducible exact Calls.regrown_of (C2.o _)) | (go_at_call 143; with_reducible exact Calls.regrown_of (C3.o _)) | (go_at_call 143; with_reducible exact Calls.regrown_of (C4.o _)) | (go_at_call 143; with_reducible exact Calls.regrown_of (C5.o _)))))
 refine wpQuiet_nil ?_;intro _ hw1;obtain ⟨⟨d1, d1o⟩, hw1⟩ := hw1;subst hw1;have hb2 := below_regrown w1 d1 d1o;have hs2 := HS1.o.below hb2;generalize Sort.grow (redrawn w1 d1) d1o = W2 at *;have HS2 := Qh hs2;clear hs2 g0 g1 g2 g5 g6;have g3 := fun d os => (HS2.o.grown d os).c3
 have g4 := fun d os => (HS2.o.grown d os).c4
 have g7 := fun d os => (HS2.o.grown d os).c7
 dsimp only at g3 g4 g7
 go_wp2_with fail;refine wp_region_quiet_below (by kernel_rfl) (by kernel_rfl) ?_;repeat (go_big_quiet_step ((first | (go_at_call 144; with_reducible exact Calls.regrown_of (D1.o _)) | (go_at_call 144; with_reducible exact Calls.regrown_of (D2.o _)) | (go_at_call 144; with_reducible exact Calls.regrown_of (D3.o _)))))
 refine wpQuiet_nil ?_;intro _ hw2;obtain ⟨⟨d2, d2o⟩, hw2⟩ := hw2;subst hw2;go_wp2_with fail;go_ret2
 refine ⟨ret_se (Eq.trans ?_ HENC.o.symm), ?_⟩
 ·simp only [List.append_assoc]
 exact Jaa (Jaa (Jaa (Qa _) hb1) hb2) (below_regrown W2 d2 d2o)
theorem Jeh (x : M.Sp) (hx : x.fits) (w : World) :
  Calls Tryz.prog 100 #[.agg #[.int .i64 x.trace, .int .i64 x.id, .int .i64 x.parent, .string (S x.svc), .string (S x.host), .int .i64 x.start, .int .i64 x.dur, .string (S x.note)]] w fun e w' => e = .returned (.tuple #[.string (S (if M.mayB x then M.enc x else [])), .int .i64 (M.errOf (M.mayB x))]) ∧ Below w.heap.size w w' := by
 cases hm : M.mayB x
 ·exact Jh6 x hx hm w
 ·exact Jhm x hx hm w
end
section
open Go Go.RowKit
attribute [local go_sem ↓] run_index_S
attribute [local go_sem] S_append S_extract
def offN (k : Nat) : Nat := [0, 1, 2, 5, 6].getD k 0
def offT (k : Nat) : Nat := [3, 4, 7].getD k 0
def spC (x : M.Sp) : Array Value := #[.int .i64 x.trace, .int .i64 x.id, .int .i64 x.parent, .string (S x.svc), .string (S x.host), .int .i64 x.start, .int .i64 x.dur, .string (S x.note)]
def SpIn (x : M.Sp) (w : World) (b : Nat) : Prop := w.heap[b]? = some (.cells (spC x) 39 (0, 0))
theorem SpIn.lt {x : M.Sp} {w : World} {b : Nat} (h : SpIn x w b) : b < w.heap.size := by
 rcases Nat.lt_or_ge b w.heap.size with h' | h'
 ·exact h'
 ·simp [SpIn, Array.getElem?_eq_none h'] at h
theorem SpIn.at_ {x : M.Sp} {w : World} {b : Nat} (h : SpIn x w b) : SpAt x w b := by
 have hl := SpIn.lt h;unfold SpIn at h;exact ⟨by simp [World.cell?, h, spC], by simp [World.cell?, h, spC], by simp [World.cell?, h, spC], by simp [World.cell?, h, spC], by simp [World.cell?, h, spC], by simp [World.cell?, h, spC], by simp [World.cell?, h, spC], by simp [World.cell?, h, spC], hl⟩
theorem SpIn.free {x : M.Sp} {w : World} {b : Nat} (h : SpIn x w b) (j : Nat) : w.frozen? ⟨b, j, none⟩ = false := by
 unfold SpIn at h;simp [World.frozen?, h]
theorem SpIn.below {x : M.Sp} {w w' : World} {b : Nat} (h : SpIn x w b) (hb : Below w.heap.size w w') : SpIn x w' b := by
 have hl := SpIn.lt h;unfold SpIn at *;rw [hb.block b hl]; exact h
theorem SpIn.other {x : M.Sp} {w : World} {b c : Nat} (h : SpIn x w b) (hne : b ≠ c) (i : Nat) (v : Value) : SpIn x (w.setCell ⟨c, i, none⟩ v) b := by
 unfold SpIn at *;rw [Below.heap_setCell _ _ _ _ hne]; exact h
theorem Jh7 {w : World} {b : Nat} {x y : M.Sp} (h : SpIn x w b) (i : Nat) (v : Value) (hy : spC y = (spC x).setIfInBounds i v) : SpIn y (w.setCell ⟨b, i, none⟩ v) b := by
 unfold SpIn at *;simp [World.setCell, Array.getElem?_modify, h, hy]
theorem Jnw {w : World} {b k : Nat} {ns : List Nat} (hk : k < 5) (hl : ns.length = k) (h : SpIn (M.spOf ns []) w b) (n : Nat) : SpIn (M.spOf (ns ++ [n]) []) (w.setCell ⟨b, offN k, none⟩ (.int .i64 n)) b := by
 refine Jh7 h _ _ ?_;subst hl;match ns, hk with
 | [], _ => rfl
 | [_], _ => rfl
 | [_, _], _ => rfl
 | [_, _, _], _ => rfl
 | [_, _, _, _], _ => rfl
theorem Jnx {w : World} {b k : Nat} {ns : List Nat} {ts : List (List UInt8)} (hk : k < 3) (hl : ts.length = k) (h : SpIn (M.spOf ns ts) w b) (t : List UInt8) : SpIn (M.spOf ns (ts ++ [t])) (w.setCell ⟨b, offT k, none⟩ (.string (S t))) b := by
 refine Jh7 h _ _ ?_;subst hl;match ts, hk with
 | [], _ => rfl
 | [_], _ => rfl
 | [_, _], _ => rfl
theorem Jky {w : World} {b k : Nat} {ns : List Nat} (hk : k < 5) (hl : ns.length = k) (h : SpIn (M.spOf ns []) w b) : w.cell? ⟨b, offN k, none⟩ = some (.int .i64 0) := by
 unfold SpIn at h;subst hl;simp only [World.cell?, h];match ns, hk with
 | [], _ => rfl
 | [_], _ => rfl
 | [_, _], _ => rfl
 | [_, _, _], _ => rfl
 | [_, _, _, _], _ => rfl
theorem Jkz {w : World} {b k : Nat} {ns : List Nat} {ts : List (List UInt8)} (hk : k < 3) (hl : ts.length = k) (h : SpIn (M.spOf ns ts) w b) : w.cell? ⟨b, offT k, none⟩ = some (.string (S [])) := by
 unfold SpIn at h;subst hl;simp only [World.cell?, h];match ts, hk with
 | [], _ => rfl
 | [_], _ => rfl
 | [_, _], _ => rfl
theorem SpIn.more {x : M.Sp} {w : World} {b : Nat} (h : SpIn x w b) (o : Obj) : SpIn x (w.alloc o) b := h.below (Qa _)
theorem Jb4 (w : World) : SpIn M.sp0 (w.alloc (.cells (spC M.sp0) 39)) w.heap.size := heap_alloc_new w _
theorem Jl7 (w : World) (o : Obj) : SpIn (M.spOf [] []) ((w.alloc o).alloc (.cells (spC M.sp0) 39)) (w.heap.size + 1) := by
 have := heap_alloc_new (w.alloc o) (.cells (spC M.sp0) 39);rw [show (w.alloc o).heap.size = w.heap.size + 1 from by simp] at this;exact this
theorem SpIn.row {x : M.Sp} {w : World} {b : Nat} (h : SpIn x w b) (y : M.Sp) : SpIn y (w.setRow b (spC y)) b := setRow_heap w b _ _ _ _ h
theorem Jba (x : M.Sp) : (spC x).all (·.oneCell') = true := by simp [spC, Value.oneCell']
theorem Jb5 {α : Type} {l : List α} {k : Nat} {d : α} {P : α → Prop} (h : ∀ x ∈ l, P x) (hd : P d) : P (l.getD k d) := by
 rw [List.getD];cases e : l[k]? with
 | none => exact hd
 | some v => exact h v (List.mem_of_getElem? e)
theorem Jg4 (ns : List Nat) (ts : List (List UInt8)) (l : List UInt8) (hl : l.length ≤ 140737488351232) (h1 : ∀ n ∈ ns, n ≤ 9223372036854775807) (h2 : ∀ t ∈ ts, t.length ≤ l.length) : (M.spOf ns ts).fits := by
 have a0 := Jb5 (k := 0) (d := 0) (P := fun n => n ≤ 9223372036854775807) h1 (by omega);have a1 := Jb5 (k := 1) (d := 0) (P := fun n => n ≤ 9223372036854775807) h1 (by omega);have a2 := Jb5 (k := 2) (d := 0) (P := fun n => n ≤ 9223372036854775807) h1 (by omega);have a3 := Jb5 (k := 3) (d := 0) (P := fun n => n ≤ 9223372036854775807) h1 (by omega);have a4 := Jb5 (k := 4) (d := 0) (P := fun n => n ≤ 9223372036854775807) h1 (by omega);have b0 := Jb5 (k := 0) (d := []) (P := fun t => t.length ≤ l.length) h2 (by simp);have b1 := Jb5 (k := 1) (d := []) (P := fun t => t.length ≤ l.length) h2 (by simp);have b2 := Jb5 (k := 2) (d := []) (P := fun t => t.length ≤ l.length) h2 (by simp);constructor <;> simp only [M.spOf] <;> omega
structure PtrsN (w : World) (s b : Nat) : Prop where
 c : ∀ k, k < 5 → w.cell? ⟨s, k, none⟩ = some (.pointer (some ⟨b, offN k, none⟩))
 at_ : s < w.heap.size
theorem Jl8 (w : World) (o p : Obj) : PtrsN (((w.alloc o).alloc p).alloc (.cells #[.pointer (some ⟨w.heap.size + 1, 0, none⟩), .pointer (some ⟨w.heap.size + 1, 1, none⟩), .pointer (some ⟨w.heap.size + 1, 2, none⟩), .pointer (some ⟨w.heap.size + 1, 5, none⟩), .pointer (some ⟨w.heap.size + 1, 6, none⟩)] 161)) (w.heap.size + 1 + 1) (w.heap.size + 1) := by
 refine ⟨fun k hk => ?_, by simp⟩;have e : w.heap.size + 1 + 1 = ((w.alloc o).alloc p).heap.size := by simp
 rw [e, Jb3];match k, hk with
 | 0, _ => rfl
 | 1, _ => rfl
 | 2, _ => rfl
 | 3, _ => rfl
 | 4, _ => rfl
structure PtrsT (w : World) (s b : Nat) : Prop where
 c : ∀ k, k < 3 → w.cell? ⟨s, k, none⟩ = some (.pointer (some ⟨b, offT k, none⟩))
 at_ : s < w.heap.size
theorem Jl9 (w : World) (b : Nat) : PtrsT (w.alloc (.cells #[.pointer (some ⟨b, 3, none⟩), .pointer (some ⟨b, 4, none⟩), .pointer (some ⟨b, 7, none⟩)] 165)) w.heap.size b := by
 refine ⟨fun k hk => ?_, by simp⟩;rw [Jb3];match k, hk with
 | 0, _ => rfl
 | 1, _ => rfl
 | 2, _ => rfl
theorem PtrsN.set {w : World} {s b : Nat} (h : PtrsN w s b) {c : Nat} (hne : s ≠ c) (i : Nat) (v : Value) : PtrsN (w.setCell ⟨c, i, none⟩ v) s b :=
 ⟨fun k hk => by rw [← h.c k hk]; simp [World.cell?, Below.heap_setCell _ ⟨c, i, none⟩ _ _ hne], by simpa [World.setCell] using h.at_⟩
theorem PtrsT.set {w : World} {s b : Nat} (h : PtrsT w s b) {c : Nat} (hne : s ≠ c) (i : Nat) (v : Value) : PtrsT (w.setCell ⟨c, i, none⟩ v) s b :=
 ⟨fun k hk => by rw [← h.c k hk]; simp [World.cell?, Below.heap_setCell _ ⟨c, i, none⟩ _ _ hne], by simpa [World.setCell] using h.at_⟩
def spV (x : M.Sp) : Value := .agg (spC x)
theorem Jge {x : M.Sp} {w : World} {g : Nat} (h : SpIn x w g) : (loadVar 39 ⟨g, 0, none⟩).run Tryz.prog w = .ok (.agg (spC x)) w :=
 run_loadVar_row w g _ _ (spC x) (0, 0) _ h Tryz.underlying39 rfl (by kernel_rfl)
theorem Jpm {fn : Func} {p : Tmp} (hr : fn.results = #[.cell p 39]) (tmps : Array Value) (w : World) (g : Nat) (x : M.Sp) (hp : tmps.getD p undef = .pointer (some ⟨g, 0, none⟩)) (hg : SpIn x w g) :
  (results fn tmps).run Tryz.prog w = .ok (spV x) w := by
 have hp' : tmps[p]?.getD undef = .pointer (some ⟨g, 0, none⟩) := by simpa using hp
 simp [results, hr, hp', asAddr, Jge hg, spV]
theorem Jcb {fn : Func} {p q : Tmp} (hr : fn.results = #[.cell p 39, .tmp q]) (tmps : Array Value) (w : World) (g : Nat) (x : M.Sp) (hp : tmps.getD p undef = .pointer (some ⟨g, 0, none⟩)) (hg : SpIn x w g) :
  (results fn tmps).run Tryz.prog w = .ok (.tuple #[spV x, tmps.getD q undef]) w := by
 have hp' : tmps[p]?.getD undef = .pointer (some ⟨g, 0, none⟩) := by simpa using hp
 simp [results, hr, hp', asAddr, Jge hg, spV]
theorem Jd0 {fn : Func} {p q r : Tmp} (hr : fn.results = #[.cell p 39, .tmp q, .tmp r]) (tmps : Array Value) (w : World) (g : Nat) (x : M.Sp) (hp : tmps.getD p undef = .pointer (some ⟨g, 0, none⟩)) (hg : SpIn x w g) :
  (results fn tmps).run Tryz.prog w = .ok (.tuple #[spV x, tmps.getD q undef, tmps.getD r undef]) w := by
 have hp' : tmps[p]?.getD undef = .pointer (some ⟨g, 0, none⟩) := by simpa using hp
 simp [results, hr, hp', asAddr, Jge hg, spV]
def decX (r : Option M.Sp) : M.Sp := match r with
 | some x => x
 | none => M.sp0
def decE (r : Option M.Sp) : Int := match r with
 | some _ => 0
 | none => 30
theorem Jfv (l : List UInt8) (hl : l.length ≤ 140737488351232) (w : World) :
  Calls Tryz.prog 113 #[.string (S l)] w fun e w' => e = .returned (.tuple #[spV (decX (M.dec l)), .int .i64 (decE (M.dec l))]) ∧ Below w.heap.size w w' := by
 go_enter Tryz.func113, Tryz.ntmps113;go_wp2_with fail;go_loopw [5, 6, 18] (fun p q i wr => ∃ (k : Nat) (ns : List Nat) (a : Nat), k ≤ 5 ∧ p = .int .i64 a ∧ q = .bool true ∧ i = .int .i64 k ∧ M.takeN k l 0 = some (ns, a) ∧ SpIn M.sp0 wr w.heap.size ∧ SpIn (M.spOf ns []) wr (w.heap.size + 1) ∧ PtrsN wr (w.heap.size + 1 + 1) (w.heap.size + 1) ∧ Below w.heap.size w wr) (fun _ _ i _ => 5 - (intOf i).toNat)
 case atStart =>
  refine ⟨0, [], 0, by omega, rfl, rfl, rfl, rfl, ?_, ?_, ?_, ?_⟩
  ·exact ((Jb4 w).more _).more _
  ·exact (Jl7 w _).more _
  ·exact Jl8 w _ _
  ·exact ((Qa _).alloc (by simp) _).alloc (by simp; omega) _
 case round =>
  obtain ⟨k, ns, a, hk, rfl, rfl, rfl, ht, hR, hX, hP, hb⟩ := hrel;have HT := Qh ht;have HR := Qh hR;have HX := Qh hX;have HP := Qh hP;have hlen := M.takeN_len ht;clear ht hR hX hP;have hsz := HR.o.lt;have hal := hlen.2.1 (by omega);have HL := Qh hlen;clear hlen;by_cases hk5 : k < 5
  ·have hck := HP.o.c k hk5
   have cg := fun W => Je6 l a W (by omega)
   have hcx := Jky hk5 HL.o.1 HX.o;have hfx := HX.o.free (offN k);cases hg : M.gets l a with
   | none =>
    rw [hg] at cg;simp only [tri] at cg;have CG := Qh cg;have HG := Qh hg;clear cg hg;go_wp2_with fail;with_reducible refine (CG.o _).mono ?_
    rintro e w2 ⟨rfl, rfl⟩
    have hd : M.dec l = none := by
     have h1 : M.takeN (k + 1) l 0 = none := by simp only [M.takeN, HT.o, HG.o]
     have h5 := M.takeN_none (m := 5) h1 (by omega);simp only [M.dec, h5]
    have HD := Qh hd;clear hd;have hh := HR.o.other (c := w.heap.size + 1) (by omega) (offN k) (.int .i64 0);have HH := Qh hh;clear hh;go_wp2_with (refine wpList_store_row rfl 39 _ _ rfl w.heap.size _ rfl rfl 39 (spC M.sp0) HH.o ?_ rfl (Jba M.sp0) ?_; kernel_rfl)
    try simp only [Exit.inBlock, Exit.then]
    refine bodyPost_ret (Jcb rfl _ _ w.heap.size M.sp0 rfl (SpIn.row HH.o _)) rfl ⟨by rw [HD.o]; rfl, below_setRow (hb.setCell (by simp) _) (Nat.le_refl _) _⟩
   | some r =>
    obtain ⟨n, c⟩ := r;rw [hg] at cg;simp only [tri] at cg;have CG := Qh cg;have HG := Qh hg;clear cg hg;go_wp2_with fail;with_reducible refine (CG.o _).mono ?_
    rintro e w2 ⟨rfl, rfl⟩;go_wp2_with fail;go_roundw
    case rel =>
     refine ⟨k + 1, ns ++ [n], c, by omega, rfl, rfl, by go_num, ?_, HR.o.other (by omega) _ _, Jnw hk5 HL.o.1 HX.o n, HP.o.set (by omega) _ _, hb.setCell (by simp) _⟩;simp only [M.takeN, HT.o, HG.o]
    case measure => simp [intOf]; omega
  ·obtain ⟨n1, _, n3⟩ := HL.o
   have ht5 : M.takeN 5 l 0 = some (ns, a) := by rw [← HT.o, show k = 5 from by omega]
   have HT5 := Qh ht5;have hne : wr.heap.size ≠ w.heap.size + 1 := by have := HX.o.lt; omega
   have hxlt := HX.o.lt;clear ht5 n1 n3;go_wp2_with fail;have hpt := Jl9 wr (w.heap.size + 1);have HPT := Qh hpt;have hR2 := HR.o.more (.cells #[.pointer (some ⟨w.heap.size + 1, 3, none⟩), .pointer (some ⟨w.heap.size + 1, 4, none⟩), .pointer (some ⟨w.heap.size + 1, 7, none⟩)] 165);have hX2 := HX.o.more (.cells #[.pointer (some ⟨w.heap.size + 1, 3, none⟩), .pointer (some ⟨w.heap.size + 1, 4, none⟩), .pointer (some ⟨w.heap.size + 1, 7, none⟩)] 165);have HR2 := Qh hR2;have HX2 := Qh hX2;clear hpt hR2 hX2;go_loopw [5, 6, 40] (fun p q i wq => ∃ (j : Nat) (ts : List (List UInt8)) (c : Nat), j ≤ 3 ∧ p = .int .i64 c ∧ q = .bool true ∧ i = .int .i64 j ∧ M.takeT j l a = some (ts, c) ∧ SpIn M.sp0 wq w.heap.size ∧ SpIn (M.spOf ns ts) wq (w.heap.size + 1) ∧ PtrsT wq wr.heap.size (w.heap.size + 1) ∧ Below w.heap.size w wq) (fun _ _ i _ => 3 - (intOf i).toNat)
   case atStart => exact ⟨0, [], a, by omega, rfl, rfl, rfl, rfl, HR2.o, HX2.o, HPT.o, hb.alloc hb.size _⟩
   case round =>
    obtain ⟨j, ts, c, hj, rfl, rfl, rfl, ht, hR, hX, hP, hb2⟩ := hrel;have HU := Qh ht;have HR := Qh hR;have HX := Qh hX;have HP := Qh hP;have hlen := M.takeT_len ht;clear ht hR hX hP HR2 HX2 HPT;have HL := Qh hlen;clear hlen;have hsz := HR.o.lt;by_cases hj3 : j < 3
    ·have hck := HP.o.c j hj3
     have cg := fun W => Jjh l c W (by omega)
     have hcx := Jkz hj3 HL.o.1 HX.o;have hfx := HX.o.free (offT j);cases hg : M.getTs l c with
     | none =>
      rw [hg] at cg;simp only [triT] at cg;have CG := Qh cg
      have hd : M.dec l = none := by
       have h1 : M.takeT (j + 1) l a = none := by simp only [M.takeT, HU.o, hg]
       have h5 := M.takeT_none (m := 3) h1 (by omega);simp only [M.dec, HT5.o, h5]
      have HD := Qh hd;clear hd cg hg;go_wp2_with fail;with_reducible refine (CG.o _).mono ?_
      rintro e w2 ⟨rfl, rfl⟩;have hh := HR.o.other (c := w.heap.size + 1) (by omega) (offT j) (.string (S []));have HH := Qh hh;clear hh;go_wp2_with (refine wpList_store_row rfl 39 _ _ rfl w.heap.size _ rfl rfl 39 (spC M.sp0) HH.o ?_ rfl (Jba M.sp0) ?_; kernel_rfl)
      try simp only [Exit.inBlock, Exit.then]
      refine bodyPost_ret (Jcb rfl _ _ w.heap.size M.sp0 rfl (SpIn.row HH.o _)) rfl ⟨by rw [HD.o]; rfl, below_setRow (hb2.setCell (by simp) _) (Nat.le_refl _) _⟩
     | some r =>
      obtain ⟨n, d⟩ := r;rw [hg] at cg;simp only [triT] at cg;have CG := Qh cg;have HG := Qh hg;clear cg hg;go_wp2_with fail;with_reducible refine (CG.o _).mono ?_
      rintro e w2 ⟨rfl, rfl⟩;go_wp2_with fail;go_roundw
      case rel =>
       refine ⟨j + 1, ts ++ [n], d, by omega, rfl, rfl, by go_num, ?_, HR.o.other (by omega) _ _, Jnx hj3 HL.o.1 HX.o n, HP.o.set (by omega) _ _, hb2.setCell (by simp) _⟩;simp only [M.takeT, HU.o, HG.o]
      case measure => simp [intOf]; omega
    ·have ht3 : M.takeT 3 l a = some (ts, c) := by rw [← HU.o, show j = 3 from by omega]
     have hfit := Jg4 ns ts l hl (M.takeN_len HT5.o).2.2 HL.o.2;have hdec : M.dec l = if c = l.length ∧ M.mayB (M.spOf ns ts) = true then some (M.spOf ns ts) else none := by simp only [M.dec, HT5.o, ht3]
     have hX3 := HX.o;generalize M.spOf ns ts = x at *;have HDEC := Qh hdec;have HXX := Qh hX3;clear hX3 hdec ht3;by_cases hc : c = l.length
     ·subst hc
      have cc := fun W => Jep x hfit W
      cases hm : M.mayB x with
      | false =>
       rw [hm] at cc;have CC := Qh cc;have hd : M.dec l = none := by rw [HDEC.o, if_neg (by rw [hm]; simp)]
       have HD := Qh hd;clear cc hd;obtain ⟨c0, c1, c2, c3, c4, c5, c6, c7, _⟩ := HXX.o.at_;go_wp2_with fail;with_reducible refine (CC.o _).mono ?_
       rintro e w3 ⟨rfl, hb3⟩;clear c0 c1 c2 c3 c4 c5 c6 c7;have hR3 := HR.o.below hb3;have HR3 := Qh hR3;clear hR3;simp only [M.errOf];go_wp2_with (refine wpList_store_row rfl 39 _ _ rfl w.heap.size _ rfl rfl 39 (spC M.sp0) HR3.o ?_ rfl (Jba M.sp0) ?_; kernel_rfl)
       try simp only [Exit.inBlock, Exit.then]
       refine bodyPost_ret (Jcb rfl _ _ w.heap.size M.sp0 rfl (SpIn.row HR3.o _)) rfl ⟨by rw [HD.o]; rfl, below_setRow (Jaa hb2 hb3) (Nat.le_refl _) _⟩
      | true =>
       rw [hm] at cc;have CC := Qh cc;have hd : M.dec l = some x := by rw [HDEC.o, if_pos ⟨rfl, hm⟩]
       have HD := Qh hd;clear cc hd;obtain ⟨c0, c1, c2, c3, c4, c5, c6, c7, _⟩ := HXX.o.at_;go_wp2_with fail;with_reducible refine (CC.o _).mono ?_
       rintro e w3 ⟨rfl, hb3⟩;clear c0 c1 c2 c3 c4 c5 c6 c7;have hR3 := HR.o.below hb3;have HR3 := Qh hR3;have hh3 : w3.heap[w.heap.size + 1]? = some (.cells #[.int .i64 x.trace, .int .i64 x.id, .int .i64 x.parent, .string (S x.svc), .string (S x.host), .int .i64 x.start, .int .i64 x.dur, .string (S x.note)] 39 (0, 0)) := HXX.o.below hb3;have HH3 := Qh hh3;clear hR3 hh3;simp only [M.errOf];go_wp2_with (first | (refine wpList_load_row rfl 39 _ rfl (w.heap.size + 1) rfl 39 _ (0, 0) _ HH3.o Tryz.underlying39 rfl ?_ ?_; kernel_rfl) | (refine wpList_store_row rfl 39 _ _ rfl w.heap.size _ rfl rfl 39 (spC M.sp0) HR3.o ?_ rfl (Jba x) ?_; kernel_rfl))
       try simp only [Exit.inBlock, Exit.then]
       refine bodyPost_ret (Jcb rfl _ _ w.heap.size x rfl (SpIn.row HR3.o _)) rfl ⟨by rw [HD.o]; rfl, below_setRow (Jaa hb2 hb3) (Nat.le_refl _) _⟩
     ·have hd : M.dec l = none := by rw [HDEC.o, if_neg (fun h => hc h.1)]
      have HD := Qh hd;have hci : ¬ ((c : Int) = (l.length : Int)) := by omega
      clear hd;go_wp2_with (refine wpList_store_row rfl 39 _ _ rfl w.heap.size _ rfl rfl 39 (spC M.sp0) HR.o ?_ rfl (Jba M.sp0) ?_; kernel_rfl)
      try simp only [Exit.inBlock, Exit.then]
      refine bodyPost_ret (Jcb rfl _ _ w.heap.size M.sp0 rfl (SpIn.row HR.o _)) rfl ⟨by rw [HD.o]; rfl, below_setRow hb2 (Nat.le_refl _) _⟩
end
section
open Go Go.RowKit
attribute [local go_sem ↓] run_index_S
attribute [local go_sem] S_append S_extract
def RowIn (C : Array Value) (T : TypeId) (w : World) (b : Nat) : Prop := w.heap[b]? = some (.cells C T (0, 0))
section
variable {C : Array Value} {T : TypeId} {w w' : World} {b : Nat}
theorem RowIn.lt (h : RowIn C T w b) : b < w.heap.size := by
 rcases Nat.lt_or_ge b w.heap.size with h' | h'
 ·exact h'
 ·simp [RowIn, Array.getElem?_eq_none h'] at h
theorem RowIn.free (h : RowIn C T w b) (j : Nat) : w.frozen? ⟨b, j, none⟩ = false := by
 unfold RowIn at h;simp [World.frozen?, h]
theorem RowIn.cell (h : RowIn C T w b) (j : Nat) : w.cell? ⟨b, j, none⟩ = C[j]? := by
 unfold RowIn at h;simp [World.cell?, h]
theorem RowIn.below (h : RowIn C T w b) (hb : Below w.heap.size w w') : RowIn C T w' b := by
 have hl := h.lt;unfold RowIn at *;rw [hb.block b hl]; exact h
theorem RowIn.other (h : RowIn C T w b) {c : Nat} (hne : b ≠ c) (i : Nat) (v : Value) : RowIn C T (w.setCell ⟨c, i, none⟩ v) b := by
 unfold RowIn at *;rw [Below.heap_setCell _ _ _ _ hne]; exact h
theorem RowIn.set (h : RowIn C T w b) (i : Nat) (v : Value) : RowIn (C.setIfInBounds i v) T (w.setCell ⟨b, i, none⟩ v) b := by
 unfold RowIn at *;simp [World.setCell, Array.getElem?_modify, h]
theorem RowIn.more (h : RowIn C T w b) (o : Obj) : RowIn C T (w.alloc o) b := h.below (Qa _)
end
theorem Jg5 (C : Array Value) (T : TypeId) (w : World) : RowIn C T (w.alloc (.cells C T)) w.heap.size := heap_alloc_new w _
theorem Jh8 (C : Array Value) (T : TypeId) (w : World) (b : Nat) (hb : b = w.heap.size) : RowIn C T (w.alloc (.cells C T)) b := hb ▸ heap_alloc_new w _
def padN (ns : List Nat) : Array Value := #[.int .i64 (ns.getD 0 0 : Nat), .int .i64 (ns.getD 1 0 : Nat), .int .i64 (ns.getD 2 0 : Nat), .int .i64 (ns.getD 3 0 : Nat), .int .i64 (ns.getD 4 0 : Nat)]
def padT (ts : List (List UInt8)) : Array Value := #[.string (S (ts.getD 0 [])), .string (S (ts.getD 1 [])), .string (S (ts.getD 2 []))]
theorem Jma {ns : List Nat} {k : Nat} (hl : ns.length = k) (hk : k < 5) (n : Nat) : (padN ns).setIfInBounds k (.int .i64 n) = padN (ns ++ [n]) := by
 subst hl;match ns, hk with
 | [], _ => rfl
 | [_], _ => rfl
 | [_, _], _ => rfl
 | [_, _, _], _ => rfl
 | [_, _, _, _], _ => rfl
theorem Jmb {ts : List (List UInt8)} {k : Nat} (hl : ts.length = k) (hk : k < 3) (t : List UInt8) : (padT ts).setIfInBounds k (.string (S t)) = padT (ts ++ [t]) := by
 subst hl;match ts, hk with
 | [], _ => rfl
 | [_], _ => rfl
 | [_, _], _ => rfl
theorem Jdd (ns : List Nat) (k : Nat) (hk : k < 5) : (padN ns)[k]? = some (.int .i64 (ns.getD k 0 : Nat)) := by
 match k, hk with
 | 0, _ => rfl
 | 1, _ => rfl
 | 2, _ => rfl
 | 3, _ => rfl
 | 4, _ => rfl
theorem Je7 (ts : List (List UInt8)) (k : Nat) (hk : k < 3) : (padT ts)[k]? = some (.string (S (ts.getD k []))) := by
 match k, hk with
 | 0, _ => rfl
 | 1, _ => rfl
 | 2, _ => rfl
def M.take (l : List UInt8) (a : Nat) : Option (M.Sp × Nat) := match M.takeN 5 l a with
 | none => none
 | some (ns, b) => match M.takeT 3 l b with
  | none => none
  | some (ts, e) => some (M.spOf ns ts, e)
def takV (r : Option (M.Sp × Nat)) : Value := match r with
 | some (x, e) => .tuple #[spV x, .int .i64 e, .bool true]
 | none => .tuple #[spV M.sp0, .int .i64 0, .bool false]
theorem Jjk (l : List UInt8) (hl : l.length ≤ 140737488351232) (a0 : Nat) (w : World) :
  Calls Tryz.prog 137 #[.string (S l), .int .i64 a0] w fun e w' => e = .returned (takV (M.take l a0)) ∧ Below w.heap.size w w' := by
 go_enter Tryz.func137, Tryz.ntmps137;go_wp2_with fail;go_loopw [1, 9, 10] (fun p q i wr => ∃ (k : Nat) (okb : Bool), k ≤ 5 ∧ i = .int .i64 k ∧ q = .bool okb ∧ SpIn M.sp0 wr w.heap.size ∧ RowIn (padT []) 175 wr (w.heap.size + 1 + 1) ∧ Below w.heap.size w wr ∧ (okb = false → M.takeN k l a0 = none) ∧ (okb = true → ∃ (ns : List Nat) (a : Nat), p = .int .i64 a ∧ M.takeN k l a0 = some (ns, a) ∧ RowIn (padN ns) 174 wr (w.heap.size + 1))) (fun _ _ i _ => 5 - (intOf i).toNat)
 case atStart =>
  refine ⟨0, true, by omega, rfl, rfl, ?_, ?_, ?_, by simp, fun _ => ⟨[], a0, rfl, rfl, ?_⟩⟩
  ·exact ((Jb4 w).more _).more _
  ·exact Jh8 _ _ _ _ (by simp)
  ·exact ((Qa _).alloc (by simp) _).alloc (by simp; omega) _
  ·exact (Jh8 _ _ (w.alloc _) _ (by simp)).more _
 case round =>
  obtain ⟨k, okb, hk, rfl, rfl, hR, hT, hb, hno, hyes⟩ := hrel;have HR := Qh hR;have HT := Qh hT;clear hR hT;cases okb with
  | false =>
   have hd : M.take l a0 = none := by
    have h5 := M.takeN_none (m := 5) (hno rfl) hk;simp only [M.take, h5]
   have HD := Qh hd;clear hd hno hyes;by_cases hk5 : k < 5
   ·go_wp2_with fail
    refine wp_loop_rounds 1 ?_;rw [rounds_succ];go_wp2_with (refine wpList_store_row rfl 39 _ _ rfl w.heap.size _ rfl rfl 39 (spC M.sp0) HR.o ?_ rfl (Jba M.sp0) ?_; kernel_rfl)
    try simp only [Exit.inBlock, Exit.then]
    refine bodyPost_ret (Jd0 rfl _ _ w.heap.size M.sp0 rfl (SpIn.row HR.o _)) rfl ⟨by rw [HD.o]; rfl, below_setRow hb (Nat.le_refl _) _⟩
   ·go_wp2_with fail
    refine wp_loop_rounds 1 ?_;rw [rounds_succ];go_wp2_with (refine wpList_store_row rfl 39 _ _ rfl w.heap.size _ rfl rfl 39 (spC M.sp0) HR.o ?_ rfl (Jba M.sp0) ?_; kernel_rfl)
    try simp only [Exit.inBlock, Exit.then]
    refine bodyPost_ret (Jd0 rfl _ _ w.heap.size M.sp0 rfl (SpIn.row HR.o _)) rfl ⟨by rw [HD.o]; rfl, below_setRow hb (Nat.le_refl _) _⟩
  | true =>
   obtain ⟨ns, a, rfl, ht, hN⟩ := hyes rfl;have HN := Qh hN;have HK := Qh ht;have hlen := M.takeN_len ht;have HL := Qh hlen;clear hN ht hlen hno hyes;by_cases hk5 : k < 5
   ·have cg := fun W => Jc9 l a W (by omega)
    have hck : ∀ w2, Below wr.heap.size wr w2 → w2.cell? ⟨w.heap.size + 1, k, none⟩ = some (.int .i64 (ns.getD k 0 : Nat)) := fun w2 h2 => ((HN.o.below h2).cell k).trans (Jdd ns k hk5)
    have hfr : ∀ w2, Below wr.heap.size wr w2 → w2.frozen? ⟨w.heap.size + 1, k, none⟩ = false := fun w2 h2 => (HN.o.below h2).free k
    have HCK := Qh hck;have HFR := Qh hfr;clear hck hfr;cases hg : M.gets l a with
    | none =>
     rw [hg] at cg;simp only [tri] at cg;have CG := Qh cg;have HG := Qh hg;clear cg hg;go_wp2_with fail;with_reducible refine (CG.o _).mono ?_
     rintro e w2 ⟨rfl, hb2⟩;have hck := HCK.o _ hb2;have hfr := HFR.o _ hb2;go_wp2_with fail;go_roundw
     case rel =>
      refine ⟨k + 1, false, by omega, by go_num, rfl, (HR.o.below hb2).other (by omega) _ _, (HT.o.below hb2).other (by omega) _ _, (Jaa hb hb2).setCell (by simp) _, fun _ => ?_, by simp⟩;simp only [M.takeN, HK.o, HG.o]
     case measure => simp [intOf]; omega
    | some r =>
     obtain ⟨n, c⟩ := r;rw [hg] at cg;simp only [tri] at cg;have CG := Qh cg;have HG := Qh hg;clear cg hg;go_wp2_with fail;with_reducible refine (CG.o _).mono ?_
     rintro e w2 ⟨rfl, hb2⟩;have hck := HCK.o _ hb2;have hfr := HFR.o _ hb2;go_wp2_with fail;go_roundw
     case rel =>
      refine ⟨k + 1, true, by omega, by go_num, rfl, (HR.o.below hb2).other (by omega) _ _, (HT.o.below hb2).other (by omega) _ _, (Jaa hb hb2).setCell (by simp) _, by simp, fun _ => ⟨ns ++ [n], c, rfl, ?_, ?_⟩⟩
      ·simp only [M.takeN, HK.o, HG.o]
      ·have := (HN.o.below hb2).set k (.int .i64 n)
       rwa [Jma HL.o.1 hk5] at this
     case measure => simp [intOf]; omega
   ·have ht5 : M.takeN 5 l a0 = some (ns, a) := by rw [← HK.o, show k = 5 from by omega]
    have HT5 := Qh ht5;clear ht5;go_wp2_with fail;go_loopw [1, 9, 11] (fun p q i wq => ∃ (j : Nat) (okb : Bool), j ≤ 3 ∧ i = .int .i64 j ∧ q = .bool okb ∧ SpIn M.sp0 wq w.heap.size ∧ RowIn (padN ns) 174 wq (w.heap.size + 1) ∧ Below w.heap.size w wq ∧ (okb = false → M.takeT j l a = none) ∧ (okb = true → ∃ (ts : List (List UInt8)) (c : Nat), p = .int .i64 c ∧ M.takeT j l a = some (ts, c) ∧ RowIn (padT ts) 175 wq (w.heap.size + 1 + 1))) (fun _ _ i _ => 3 - (intOf i).toNat)
    case atStart => exact ⟨0, true, by omega, rfl, rfl, HR.o, HN.o, hb, by simp, fun _ => ⟨[], a, rfl, rfl, HT.o⟩⟩
    case round =>
     clear HR HN HT;obtain ⟨j, okb, hj, rfl, rfl, hR, hN, hb1, hno, hyes⟩ := hrel;have HR := Qh hR;have HN := Qh hN;clear hR hN;cases okb with
     | false =>
      have hd : M.take l a0 = none := by
       have h5 := M.takeT_none (m := 3) (hno rfl) hj;simp only [M.take, HT5.o, h5]
      have HD := Qh hd;clear hd hno hyes;by_cases hj3 : j < 3
      ·go_wp2_with (refine wpList_store_row rfl 39 _ _ rfl w.heap.size _ rfl rfl 39 (spC M.sp0) HR.o ?_ rfl (Jba M.sp0) ?_; kernel_rfl)
       try simp only [Exit.inBlock, Exit.then]
       refine bodyPost_ret (Jd0 rfl _ _ w.heap.size M.sp0 rfl (SpIn.row HR.o _)) rfl ⟨by rw [HD.o]; rfl, below_setRow hb1 (Nat.le_refl _) _⟩
      ·go_wp2_with (refine wpList_store_row rfl 39 _ _ rfl w.heap.size _ rfl rfl 39 (spC M.sp0) HR.o ?_ rfl (Jba M.sp0) ?_; kernel_rfl)
       try simp only [Exit.inBlock, Exit.then]
       refine bodyPost_ret (Jd0 rfl _ _ w.heap.size M.sp0 rfl (SpIn.row HR.o _)) rfl ⟨by rw [HD.o]; rfl, below_setRow hb1 (Nat.le_refl _) _⟩
     | true =>
      obtain ⟨ts, c, rfl, ht, hT⟩ := hyes rfl;have HT := Qh hT;have HU := Qh ht;have hlen := M.takeT_len ht;have HM := Qh hlen;clear hT ht hlen hno hyes;by_cases hj3 : j < 3
      ·have cg := fun W => Jgd l c W (by omega)
       have hck : ∀ w2, Below wr.heap.size wr w2 → w2.cell? ⟨w.heap.size + 1 + 1, j, none⟩ = some (.string (S (ts.getD j []))) := fun w2 h2 => ((HT.o.below h2).cell j).trans (Je7 ts j hj3)
       have hfr : ∀ w2, Below wr.heap.size wr w2 → w2.frozen? ⟨w.heap.size + 1 + 1, j, none⟩ = false := fun w2 h2 => (HT.o.below h2).free j
       have HCK := Qh hck;have HFR := Qh hfr;clear hck hfr;cases hg : M.getTs l c with
       | none =>
        rw [hg] at cg;simp only [triT] at cg;have CG := Qh cg;have HG := Qh hg;clear cg hg;go_wp2_with fail;with_reducible refine (CG.o _).mono ?_
        rintro e w2 ⟨rfl, hb2⟩;have hck := HCK.o _ hb2;have hfr := HFR.o _ hb2;go_wp2_with fail;go_roundw
        case rel =>
         refine ⟨j + 1, false, by omega, by go_num, rfl, (HR.o.below hb2).other (by omega) _ _, (HN.o.below hb2).other (by omega) _ _, (Jaa hb1 hb2).setCell (by simp; omega) _, fun _ => ?_, by simp⟩;simp only [M.takeT, HU.o, HG.o]
        case measure => simp [intOf]; omega
       | some r =>
        obtain ⟨n, d⟩ := r;rw [hg] at cg;simp only [triT] at cg;have CG := Qh cg;have HG := Qh hg;clear cg hg;go_wp2_with fail;with_reducible refine (CG.o _).mono ?_
        rintro e w2 ⟨rfl, hb2⟩;have hck := HCK.o _ hb2;have hfr := HFR.o _ hb2;go_wp2_with fail;go_roundw
        case rel =>
         refine ⟨j + 1, true, by omega, by go_num, rfl, (HR.o.below hb2).other (by omega) _ _, (HN.o.below hb2).other (by omega) _ _, (Jaa hb1 hb2).setCell (by simp; omega) _, by simp, fun _ => ⟨ts ++ [n], d, rfl, ?_, ?_⟩⟩
         ·simp only [M.takeT, HU.o, HG.o]
         ·have := (HT.o.below hb2).set j (.string (S n))
          rwa [Jmb HM.o.1 hj3] at this
        case measure => simp [intOf]; omega
      ·have hd : M.take l a0 = some (M.spOf ns ts, c) := by
        have h3 : M.takeT 3 l a = some (ts, c) := by rw [← HU.o, show j = 3 from by omega]
        simp only [M.take, HT5.o, h3]
       have HD := Qh hd;clear hd;have n0 := (HN.o.cell 0).trans (Jdd ns 0 (by omega));have n1 := (HN.o.cell 1).trans (Jdd ns 1 (by omega));have n2 := (HN.o.cell 2).trans (Jdd ns 2 (by omega));have n3 := (HN.o.cell 3).trans (Jdd ns 3 (by omega));have n4 := (HN.o.cell 4).trans (Jdd ns 4 (by omega));have t0 := (HT.o.cell 0).trans (Je7 ts 0 (by omega));have t1 := (HT.o.cell 1).trans (Je7 ts 1 (by omega));have t2 := (HT.o.cell 2).trans (Je7 ts 2 (by omega));go_wp2_with (refine wpList_store_row rfl 39 _ _ rfl w.heap.size _ rfl rfl 39 (spC M.sp0) HR.o ?_ rfl (Jba (M.spOf ns ts)) ?_; kernel_rfl)
       try simp only [Exit.inBlock, Exit.then]
       refine bodyPost_ret (Jd0 rfl _ _ w.heap.size (M.spOf ns ts) rfl (SpIn.row HR.o _)) rfl ⟨by rw [HD.o]; rfl, below_setRow hb1 (Nat.le_refl _) _⟩
end
section
open Go Go.RowKit
attribute [local go_sem ↓] run_index_S
attribute [local go_sem] S_append S_extract
theorem M.dec_take (l : List UInt8) : M.dec l = match M.take l 0 with
  | none => none
  | some (x, e) => if e = l.length ∧ M.mayB x = true then some x else none := by
 unfold M.dec M.take;cases M.takeN 5 l 0 with
 | none => rfl
 | some r =>
  obtain ⟨ns, a⟩ := r;dsimp only
  cases M.takeT 3 l a with
  | none => rfl
  | some q => rfl
theorem Jmc {l : List UInt8} (hl : l.length ≤ 140737488351232) {a : Nat} {x : M.Sp} {e : Nat} (h : M.take l a = some (x, e)) : x.fits := by
 unfold M.take at h;cases hn : M.takeN 5 l a with
 | none => simp [hn] at h
 | some r =>
  obtain ⟨ns, b⟩ := r;cases ht : M.takeT 3 l b with
  | none => simp [hn, ht] at h
  | some q =>
   obtain ⟨ts, c⟩ := q;simp only [hn, ht, Option.some.injEq, Prod.mk.injEq] at h;rw [← h.1];exact Jg4 ns ts l hl (M.takeN_len hn).2.2 (M.takeT_len ht).2
theorem Jei (l : List UInt8) (hl : l.length ≤ 140737488351232) (w : World) :
  Calls Tryz.prog 90 #[.string (S l)] w fun e w' => e = .returned (.tuple #[spV (decX (M.dec l)), .int .i64 (decE (M.dec l))]) ∧ Below w.heap.size w w' := by
 have ct : ∀ W, Calls Tryz.prog 137 #[.string (S l), .int .i64 0] W fun e w' => e = .returned (takV (M.take l 0)) ∧ Below W.heap.size W w' := fun W => Jjk l hl 0 W
 have hdt := M.dec_take l;cases ht : M.take l 0 with
 | none =>
  rw [ht] at ct hdt;simp only [takV, spV, spC] at ct;have CT := Qh ct;have HD := Qh hdt;clear ct hdt ht;go_enter Tryz.func90, Tryz.ntmps90;go_wp2_with fail;with_reducible refine (CT.o _).mono ?_
  rintro e w2 ⟨rfl, hb2⟩;have hr2 := (Jb4 w).below hb2;have HR2 := Qh hr2;clear hr2;go_wp2_with (refine wpList_store_row rfl 39 _ _ rfl w.heap.size _ rfl rfl 39 (spC M.sp0) (HR2.o.more _) ?_ rfl (Jba M.sp0) ?_; kernel_rfl)
  try simp only [Exit.inBlock, Exit.then]
  exact bodyPost_ret (Jcb rfl _ _ w.heap.size M.sp0 rfl (SpIn.row (HR2.o.more _) _)) rfl ⟨by rw [HD.o]; rfl, below_setRow ((Jaa (Qa _) hb2).alloc (by have := hb2.size; simp at this; omega) _) (Nat.le_refl _) _⟩
 | some r =>
  obtain ⟨x, c⟩ := r;rw [ht] at ct hdt;simp only [takV, spV, spC] at ct;have hfit := Jmc hl ht;have CT := Qh ct;have HDT := Qh hdt;clear ct hdt ht;by_cases hc : c = l.length
  ·subst hc
   have cc := fun W => Jd6 x hfit W
   cases hm : M.mayB x with
   | false =>
    rw [hm] at cc;have CC := Qh cc;have hd : M.dec l = none := by rw [HDT.o]; simp [hm]
    have HD := Qh hd;clear cc hd;go_enter Tryz.func90, Tryz.ntmps90;go_wp2_with fail;with_reducible refine (CT.o _).mono ?_
    rintro e w2 ⟨rfl, hb2⟩;have hr2 := (Jb4 w).below hb2;have HR2 := Qh hr2;clear hr2;go_wp2_with fail;with_reducible refine (CC.o _).mono ?_
    rintro e w3 ⟨rfl, hb3⟩;have hr3 := (HR2.o.more _).below hb3;have HR3 := Qh hr3;clear hr3;go_wp2_with (refine wpList_store_row rfl 39 _ _ rfl w.heap.size _ rfl rfl 39 (spC M.sp0) (HR3.o) ?_ rfl (Jba M.sp0) ?_; kernel_rfl)
    try simp only [Exit.inBlock, Exit.then]
    exact bodyPost_ret (Jcb rfl _ _ w.heap.size M.sp0 rfl (SpIn.row (HR3.o) _)) rfl ⟨by rw [HD.o]; rfl, below_setRow (Jaa ((Jaa (Qa _) hb2).alloc (by have := hb2.size; simp at this; omega) _) hb3) (Nat.le_refl _) _⟩
   | true =>
    rw [hm] at cc;have CC := Qh cc;have hd : M.dec l = some x := by rw [HDT.o]; simp [hm]
    have HD := Qh hd;clear cc hd;go_enter Tryz.func90, Tryz.ntmps90;go_wp2_with fail;with_reducible refine (CT.o _).mono ?_
    rintro e w2 ⟨rfl, hb2⟩;have hr2 := (Jb4 w).below hb2;have HR2 := Qh hr2;clear hr2;go_wp2_with fail;with_reducible refine (CC.o _).mono ?_
    rintro e w3 ⟨rfl, hb3⟩;have hr3 := (HR2.o.more _).below hb3;have hx3 : RowIn #[.int .i64 x.trace, .int .i64 x.id, .int .i64 x.parent, .string (S x.svc), .string (S x.host), .int .i64 x.start, .int .i64 x.dur, .string (S x.note)] 39 w3 w2.heap.size := (Jg5 _ _ w2).below hb3;have HR3 := Qh hr3;have HX3 := Qh hx3;clear hr3 hx3;go_wp2_with (first | (refine wpList_load_row rfl 39 _ rfl w2.heap.size rfl 39 _ (0, 0) _ HX3.o Tryz.underlying39 rfl ?_ ?_; kernel_rfl) | (refine wpList_store_row rfl 39 _ _ rfl w.heap.size _ rfl rfl 39 (spC M.sp0) (HR3.o) ?_ rfl (Jba x) ?_; kernel_rfl))
    try simp only [Exit.inBlock, Exit.then]
    exact bodyPost_ret (Jcb rfl _ _ w.heap.size x rfl (SpIn.row (HR3.o) _)) rfl ⟨by rw [HD.o]; rfl, below_setRow (Jaa ((Jaa (Qa _) hb2).alloc (by have := hb2.size; simp at this; omega) _) hb3) (Nat.le_refl _) _⟩
  ·have hd : M.dec l = none := by rw [HDT.o]; simp [hc]
   have HD := Qh hd;have hci : ¬ ((c : Int) = (l.length : Int)) := by omega
   clear hd;go_enter Tryz.func90, Tryz.ntmps90;go_wp2_with fail;with_reducible refine (CT.o _).mono ?_
   rintro e w2 ⟨rfl, hb2⟩;have hr2 := (Jb4 w).below hb2;have HR2 := Qh hr2;clear hr2;go_wp2_with (refine wpList_store_row rfl 39 _ _ rfl w.heap.size _ rfl rfl 39 (spC M.sp0) (HR2.o.more _) ?_ rfl (Jba M.sp0) ?_; kernel_rfl)
   try simp only [Exit.inBlock, Exit.then]
   exact bodyPost_ret (Jcb rfl _ _ w.heap.size M.sp0 rfl (SpIn.row (HR2.o.more _) _)) rfl ⟨by rw [HD.o]; rfl, below_setRow ((Jaa (Qa _) hb2).alloc (by have := hb2.size; simp at this; omega) _) (Nat.le_refl _) _⟩
end
section
open Go Go.RowKit
structure M.Sp.ints (x : M.Sp) : Prop where
 t1 : -9223372036854775808 ≤ x.trace
 t2 : x.trace ≤ 9223372036854775807
 i1 : -9223372036854775808 ≤ x.id
 i2 : x.id ≤ 9223372036854775807
 p1 : -9223372036854775808 ≤ x.parent
 p2 : x.parent ≤ 9223372036854775807
 s1 : -9223372036854775808 ≤ x.start
 s2 : x.start ≤ 9223372036854775807
 d1 : -9223372036854775808 ≤ x.dur
 d2 : x.dur ≤ 9223372036854775807
theorem M.Sp.ints.fits {x : M.Sp} (h : x.ints) (l1 : x.svc.length ≤ 1000) (l2 : x.host.length ≤ 1000) (l3 : x.note.length ≤ 1000) : x.fits :=
 ⟨h.t1, h.t2, h.i1, h.i2, h.p1, h.p2, h.s1, h.s2, h.d1, h.d2, by omega, by omega, by omega⟩
end
namespace M
theorem takeN_enc (post : List UInt8) : ∀ (k : Nat) (ns : List Nat) (pre : List UInt8) (post : List UInt8), ns.length = k → (∀ n ∈ ns, n ≤ 9223372036854775807) → takeN k (pre ++ encN ns ++ post) pre.length = some (ns, pre.length + (encN ns).length)
 | 0, ns, pre, post, hk, h => by
  obtain rfl : ns = [] := List.length_eq_zero_iff.1 hk;simp [takeN, encN]
 | k + 1, ns, pre, post, hk, h => by
  have hne : ns ≠ [] := by intro e; rw [e] at hk; simp at hk
  obtain ⟨ms, n, rfl⟩ : ∃ ms n, ns = ms ++ [n] := ⟨ns.dropLast, ns.getLast hne, (List.dropLast_concat_getLast hne).symm⟩
  have hm : ms.length = k := by simpa using hk
  have ih := takeN_enc post k ms pre (putN n ++ post) hm (fun m hm => h m (by simp [hm]));have e : pre ++ encN (ms ++ [n]) ++ post = pre ++ encN ms ++ (putN n ++ post) := by rw [encN_snoc]; simp only [List.append_assoc]
  have hg := gets_put (pre ++ encN ms) post n (h n (by simp));rw [List.append_assoc] at hg;rw [e];simp only [takeN, ih];rw [List.length_append] at hg;simp only [hg];rw [encN_snoc];simp only [List.length_append];rw [Nat.add_assoc]
theorem takeT_enc : ∀ (k : Nat) (ts : List (List UInt8)) (pre : List UInt8) (post : List UInt8), ts.length = k → (∀ t ∈ ts, t.length ≤ 9223372036854775807) → takeT k (pre ++ encT ts ++ post) pre.length = some (ts, pre.length + (encT ts).length)
 | 0, ts, pre, post, hk, h => by
  obtain rfl : ts = [] := List.length_eq_zero_iff.1 hk;simp [takeT, encT]
 | k + 1, ts, pre, post, hk, h => by
  have hne : ts ≠ [] := by intro e; rw [e] at hk; simp at hk
  obtain ⟨ms, t, rfl⟩ : ∃ ms t, ts = ms ++ [t] := ⟨ts.dropLast, ts.getLast hne, (List.dropLast_concat_getLast hne).symm⟩
  have hm : ms.length = k := by simpa using hk
  have ih := takeT_enc k ms pre (putT t ++ post) hm (fun m hm => h m (by simp [hm]));have e : pre ++ encT (ms ++ [t]) ++ post = pre ++ encT ms ++ (putT t ++ post) := by rw [encT_snoc]; simp only [List.append_assoc]
  have hg := getTs_put (pre ++ encT ms) post t (h t (by simp));rw [List.append_assoc, List.length_append] at hg;rw [e];simp only [takeT, ih];simp only [putT];simp only [hg];rw [encT_snoc];simp only [putT, List.length_append];congr 2
  omega
theorem spOf_nums {x : Sp} (h : mayB x = true) : spOf (nums x) (txts x) = x := by
 obtain ⟨h1, h2, h3, _, _, h4, h5, _⟩ := mayB_parts h;apply Sp.ext' <;> simp [spOf, nums, txts] <;> omega
theorem dec_enc {x : Sp} (hx : x.fits) (h : mayB x = true) : dec (enc x) = some x := by
 have h1 := takeN_enc [] 5 (nums x) [] (encT (txts x)) rfl (fun n hn => by
  obtain ⟨k, hk, rfl⟩ := List.getElem_of_mem hn;have := nums_le hx k
  simpa [List.getD, List.getElem?_eq_getElem hk] using this)
 have h2 := takeT_enc 3 (txts x) (encN (nums x)) [] rfl (fun t ht => by have := txts_mem h t ht; omega);simp only [List.nil_append, List.length_nil, Nat.zero_add] at h1;rw [List.append_nil] at h2;unfold dec;have e : enc x = encN (nums x) ++ encT (txts x) := rfl;rw [e, h1];simp only [h2];rw [spOf_nums h, if_pos ⟨by rw [List.length_append], h⟩]
theorem enc_len {x : Sp} (h : mayB x = true) : (enc x).length ≤ 90 := by
 have hp := mayB_parts h;have hs := nameB_len hp.2.2.2.1;have hh := nameB_len hp.2.2.2.2.1;obtain ⟨h1, h2, h3, _, _, h4, h5, h6⟩ := hp;have five : (putN 2147483647).length = 5 := by decide
 have one : (putN 24).length = 1 := by decide
 have a1 := putN_len_mono x.trace.toNat 2147483647 (by omega);have a2 := putN_len_mono x.id.toNat 2147483647 (by omega);have a3 := putN_len_mono x.parent.toNat 2147483647 (by omega);have a4 := putN_len_mono x.start.toNat 2147483647 (by omega);have a5 := putN_len_mono x.dur.toNat 2147483647 (by omega);have b1 := putN_len_mono x.svc.length 24 (by omega);have b2 := putN_len_mono x.host.length 24 (by omega);have b3 := putN_len_mono x.note.length 24 (by omega);simp only [enc, encN, encT, nums, txts, putT, List.flatMap_cons, List.flatMap_nil, List.append_nil, List.length_append];omega
end M
end Go.Proofs.YtmammmjmipgmoaaGreatDoor
