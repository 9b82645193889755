/- Texts of lower layers, as one. -/
import Derived.Test.YthidmgnfdikppaaZC
import Derived.Laws.AppendOwn
import Derived.Deep.RegionHeld3
import Derived.ChangeSame
import Derived.WideShapes
import Derived.Deep.Slices
/- Plain mathematics of layer 12: batches and acks as bytes. No Go here. -/
namespace Go.Proofs.Ythidmgnfdikppaa.M
set_option linter.unusedVariables false

structure Bt where
  host : Int
  first : Int
  sps : List Sp
structure Ak where
  host : Int
  first : Int
  next : Int

/-- P12.1: which may be, but for its spans. -/
def bMay (b : Bt) : Bool := win b.host 0 3 && win b.first 0 2147483647 && decide (1 ≤ b.sps.length) && decide (b.sps.length ≤ 8) && decide (b.first + b.sps.length ≤ 2147483647)
theorem bMay_true {b : Bt} : bMay b = true ↔ (0 ≤ b.host ∧ b.host ≤ 3) ∧ (0 ≤ b.first ∧ b.first ≤ 2147483647) ∧ 1 ≤ b.sps.length ∧ b.sps.length ≤ 8 ∧ b.first + b.sps.length ≤ 2147483647 := by
  simp only [bMay, Bool.and_eq_true, win_true, decide_eq_true_eq, and_assoc]
theorem bMay_false {b : Bt} : bMay b = false ↔ ¬ ((0 ≤ b.host ∧ b.host ≤ 3) ∧ (0 ≤ b.first ∧ b.first ≤ 2147483647) ∧ 1 ≤ b.sps.length ∧ b.sps.length ≤ 8 ∧ b.first + b.sps.length ≤ 2147483647) := by
  rw [← bMay_true]; simp
def bOk (b : Bt) : Bool := bMay b && b.sps.all mayB
def aMay (a : Ak) : Bool := win a.host 0 3 && decide (0 ≤ a.first) && decide (a.first ≤ a.next) && decide (a.next ≤ 2147483647)
theorem aMay_true {a : Ak} : aMay a = true ↔ (0 ≤ a.host ∧ a.host ≤ 3) ∧ 0 ≤ a.first ∧ a.first ≤ a.next ∧ a.next ≤ 2147483647 := by
  simp only [aMay, Bool.and_eq_true, win_true, decide_eq_true_eq, and_assoc]
theorem aMay_false {a : Ak} : aMay a = false ↔ ¬ ((0 ≤ a.host ∧ a.host ≤ 3) ∧ 0 ≤ a.first ∧ a.first ≤ a.next ∧ a.next ≤ 2147483647) := by
  rw [← aMay_true]; simp

/-- P12.1: their bytes. -/
def encB (b : Bt) : List UInt8 := 66 :: (encN [b.host.toNat, b.first.toNat, b.sps.length] ++ encT (b.sps.map enc))
def encA (a : Ak) : List UInt8 := 65 :: encN [a.host.toNat, a.first.toNat, (a.next - a.first).toNat]

/-- Spans as texts, one behind the other. -/
def takeS : Nat → List UInt8 → Nat → Option (List Sp × Nat)
  | 0, _, a => some ([], a)
  | k + 1, l, a => match takeS k l a with
    | none => none
    | some (xs, b) => match getTs l b with
      | none => none
      | some (t, c) => match dec t with
        | none => none
        | some x => some (xs ++ [x], c)
theorem takeS_none {k m : Nat} {l : List UInt8} {a : Nat} (h : takeS k l a = none) (hkm : k ≤ m) : takeS m l a = none := by
  induction m with
  | zero => obtain rfl : k = 0 := by omega
            exact h
  | succ m ih =>
    by_cases e : k = m + 1
    · subst e; exact h
    · simp [takeS, ih (by omega)]
theorem takeS_takeT : ∀ {k : Nat} {l : List UInt8} {a : Nat} {xs : List Sp} {b : Nat}, takeS k l a = some (xs, b) → takeT k l a = some (xs.map enc, b) ∧ xs.length = k ∧ xs.all mayB = true
  | 0, l, a, xs, b, h => by
    simp only [takeS, Option.some.injEq, Prod.mk.injEq] at h
    obtain ⟨rfl, rfl⟩ := h
    simp [takeT]
  | k + 1, l, a, xs, b, h => by
    simp only [takeS] at h
    split at h
    · simp at h
    · rename_i ys c hm
      split at h
      · simp at h
      · rename_i t d hg
        split at h
        · simp at h
        · rename_i x hd
          simp only [Option.some.injEq, Prod.mk.injEq] at h
          obtain ⟨rfl, rfl⟩ := h
          obtain ⟨h1, h2, h3⟩ := takeS_takeT hm
          obtain ⟨h4, h5⟩ := enc_dec hd
          refine ⟨?_, by simp [h2], ?_⟩
          · simp only [takeT, h1, hg, List.map_append, List.map_cons, List.map_nil, h4]
          · rw [List.all_append, h3]; simp [h5]
theorem takeT_succ {k : Nat} {l : List UInt8} {a : Nat} {ts : List (List UInt8)} {t : List UInt8} {b : Nat} (h : takeT (k + 1) l a = some (ts ++ [t], b)) : ∃ c, takeT k l a = some (ts, c) ∧ getTs l c = some (t, b) := by
  simp only [takeT] at h
  split at h
  · simp at h
  · rename_i us c hm
    split at h
    · simp at h
    · rename_i u d hg
      simp only [Option.some.injEq, Prod.mk.injEq] at h
      obtain ⟨h1, rfl⟩ := h
      obtain ⟨rfl, h2⟩ := List.append_inj' h1 rfl
      simp only [List.cons.injEq, and_true] at h2
      subst h2
      exact ⟨c, hm, hg⟩
theorem takeT_takeS : ∀ {k : Nat} {l : List UInt8} {a : Nat} {xs : List Sp} {b : Nat}, (∀ x ∈ xs, x.fits ∧ mayB x = true) → xs.length = k → takeT k l a = some (xs.map enc, b) → takeS k l a = some (xs, b)
  | 0, l, a, xs, b, hx, hk, h => by
    obtain rfl := List.length_eq_zero_iff.1 hk
    simpa [takeT, takeS] using h
  | k + 1, l, a, xs, b, hx, hk, h => by
    have hne : xs ≠ [] := by intro e; rw [e] at hk; simp at hk
    obtain ⟨ys, x, rfl⟩ : ∃ ys x, xs = ys ++ [x] := ⟨xs.dropLast, xs.getLast hne, (List.dropLast_concat_getLast hne).symm⟩
    rw [List.map_append, List.map_cons, List.map_nil] at h
    obtain ⟨c, h1, h2⟩ := takeT_succ h
    have ih := takeT_takeS (fun y hy => hx y (by simp [hy])) (by simpa using hk) h1
    obtain ⟨f1, f2⟩ := hx x (by simp)
    simp only [takeS, ih, h2, dec_enc f1 f2]

def hd (l : List UInt8) : Nat := (l.getD 0 0).toNat
/-- P12.1: the batch of bytes. -/
def decB (l : List UInt8) : Option Bt :=
  if hd l = 66 then
    match takeN 3 l 1 with
    | none => none
    | some (ns, a) => if 8 < ns.getD 2 0 then none else
      match takeS (ns.getD 2 0) l a with
      | none => none
      | some (xs, c) => if c = l.length ∧ bMay ⟨(ns.getD 0 0 : Nat), (ns.getD 1 0 : Nat), xs⟩ = true then some ⟨(ns.getD 0 0 : Nat), (ns.getD 1 0 : Nat), xs⟩ else none
  else none
/-- P12.1: the ack of bytes. -/
def decA (l : List UInt8) : Option Ak :=
  if hd l = 65 then
    match takeN 3 l 1 with
    | none => none
    | some (ns, a) => if a = l.length ∧ ns.getD 2 0 ≤ 2147483647 ∧ aMay ⟨(ns.getD 0 0 : Nat), (ns.getD 1 0 : Nat), (ns.getD 1 0 + ns.getD 2 0 : Nat)⟩ = true then some ⟨(ns.getD 0 0 : Nat), (ns.getD 1 0 : Nat), (ns.getD 1 0 + ns.getD 2 0 : Nat)⟩ else none
  else none

theorem hd_cons {l : List UInt8} {n : Nat} (hn : 0 < n) (h : hd l = n) : ∃ c r, l = c :: r ∧ c.toNat = n := by
  cases l with
  | nil => simp [hd] at h; omega
  | cons c r => exact ⟨c, r, rfl, by simpa [hd] using h⟩
theorem three {ns : List Nat} (h : ns.length = 3) : ns = [ns.getD 0 0, ns.getD 1 0, ns.getD 2 0] := by
  match ns, h with
  | [_, _, _], _ => rfl
theorem piece_one (c : UInt8) (r : List UInt8) (b : Nat) (h : 1 ≤ b) : c :: piece (c :: r) 1 b = (c :: r).take b := by
  obtain ⟨b, rfl⟩ : ∃ d, b = d + 1 := ⟨b - 1, by omega⟩
  simp [piece]
/-- The bytes of what was taken are those that stand there. -/
theorem encB_take {l : List UInt8} {ns : List Nat} {a c : Nat} {xs : List Sp} (h0 : hd l = 66) (h1 : takeN 3 l 1 = some (ns, a)) (h2 : takeS (ns.getD 2 0) l a = some (xs, c)) :
    encB ⟨(ns.getD 0 0 : Nat), (ns.getD 1 0 : Nat), xs⟩ = l.take c ∧ c ≤ l.length ∧ xs.length = ns.getD 2 0 ∧ xs.all mayB = true := by
  obtain ⟨x, r, rfl, hx⟩ := hd_cons (by omega) h0
  obtain rfl : x = 66 := u8_ext hx
  obtain ⟨e1, e2, e3⟩ := takeS_takeT h2
  have p1 := takeN_piece (by simp) h1
  have p2 := takeT_piece p1.2.1 e1
  refine ⟨?_, p2.2.1, e2, e3⟩
  have l1 := (takeN_len h1).1
  unfold encB
  simp only [Int.toNat_natCast]
  rw [e2, ← three l1, p1.2.2, p2.2.2, piece_join _ 1 a c p1.1 p2.1]
  exact piece_one _ _ _ (by omega)
theorem encA_take {l : List UInt8} {ns : List Nat} {a : Nat} (h0 : hd l = 65) (h1 : takeN 3 l 1 = some (ns, a)) :
    encA ⟨(ns.getD 0 0 : Nat), (ns.getD 1 0 : Nat), (ns.getD 1 0 + ns.getD 2 0 : Nat)⟩ = l.take a ∧ a ≤ l.length := by
  obtain ⟨x, r, rfl, hx⟩ := hd_cons (by omega) h0
  obtain rfl : x = 65 := u8_ext hx
  have p1 := takeN_piece (by simp) h1
  refine ⟨?_, p1.2.1⟩
  have l1 := (takeN_len h1).1
  have e : (((ns.getD 1 0 + ns.getD 2 0 : Nat) : Int) - ((ns.getD 1 0 : Nat) : Int)).toNat = ns.getD 2 0 := by omega
  unfold encA
  simp only [e, Int.toNat_natCast]
  rw [← three l1, p1.2.2]
  exact piece_one _ _ _ (by omega)
theorem take_eq_self {l : List UInt8} {c : Nat} (h : c ≤ l.length) : l.take c = l ↔ c = l.length := by
  constructor
  · intro e
    have := congrArg List.length e
    rw [List.length_take] at this
    omega
  · intro e; subst e; simp

/-- P12.2: what is decoded is encoded. -/
theorem encB_dec {l : List UInt8} {b : Bt} (h : decB l = some b) : encB b = l ∧ bOk b = true := by
  unfold decB at h
  split at h
  · rename_i h0
    cases h1 : takeN 3 l 1 with
    | none => simp [h1] at h
    | some r =>
      obtain ⟨ns, a⟩ := r
      simp only [h1] at h
      split at h
      · simp at h
      · cases h2 : takeS (ns.getD 2 0) l a with
        | none => simp only [h2] at h; cases h
        | some q =>
          obtain ⟨xs, c⟩ := q
          simp only [h2] at h
          split at h
          · rename_i hc
            simp only [Option.some.injEq] at h
            subst h
            obtain ⟨e1, e2, e3, e4⟩ := encB_take h0 h1 h2
            exact ⟨by rw [e1, (take_eq_self e2).2 hc.1], by rw [bOk, hc.2, e4]; rfl⟩
          · cases h
  · cases h
theorem encA_dec {l : List UInt8} {b : Ak} (h : decA l = some b) : encA b = l ∧ aMay b = true := by
  unfold decA at h
  split at h
  · rename_i h0
    cases h1 : takeN 3 l 1 with
    | none => simp [h1] at h
    | some r =>
      obtain ⟨ns, a⟩ := r
      simp only [h1] at h
      split at h
      · rename_i hc
        simp only [Option.some.injEq] at h
        subst h
        obtain ⟨e1, e2⟩ := encA_take h0 h1
        exact ⟨by rw [e1, (take_eq_self e2).2 hc.1], hc.2.2⟩
      · cases h
  · cases h

theorem takeN_three (c : UInt8) (a b d : Nat) (post : List UInt8) (ha : a ≤ 9223372036854775807) (hb : b ≤ 9223372036854775807) (hd : d ≤ 9223372036854775807) :
    takeN 3 (c :: (encN [a, b, d] ++ post)) 1 = some ([a, b, d], 1 + (encN [a, b, d]).length) := by
  have h := takeN_enc [] 3 [a, b, d] [c] post rfl (by simp; omega)
  simpa using h
/-- P12.2: what is encoded is decoded. -/
theorem decB_enc {b : Bt} (hf : ∀ x ∈ b.sps, x.fits) (h : bOk b = true) : decB (encB b) = some b := by
  obtain ⟨hm, ha⟩ : bMay b = true ∧ b.sps.all mayB = true := by simpa [bOk] using h
  have hb := bMay_true.1 hm
  have hall := List.all_eq_true.1 ha
  have h1 := takeN_three 66 b.host.toNat b.first.toNat b.sps.length (encT (b.sps.map enc)) (by omega) (by omega) (by omega)
  have h2 := takeT_enc b.sps.length (b.sps.map enc) (66 :: encN [b.host.toNat, b.first.toNat, b.sps.length]) [] (by simp) (fun t ht => by
    obtain ⟨x, hx, rfl⟩ := List.mem_map.1 ht
    have := enc_len (hall x hx); omega)
  rw [List.append_nil, List.cons_append] at h2
  have h3 := takeT_takeS (fun x hx => ⟨hf x hx, hall x hx⟩) rfl h2
  unfold decB
  have h0 : hd (encB b) = 66 := rfl
  have he : encB b = 66 :: (encN [b.host.toNat, b.first.toNat, b.sps.length] ++ encT (b.sps.map enc)) := rfl
  rw [if_pos h0, he, h1]
  have hl : (66 :: encN [b.host.toNat, b.first.toNat, b.sps.length]).length = 1 + (encN [b.host.toNat, b.first.toNat, b.sps.length]).length := by simp; omega
  rw [hl] at h3
  have g0 : [b.host.toNat, b.first.toNat, b.sps.length].getD 0 0 = b.host.toNat := rfl
  have g1 : [b.host.toNat, b.first.toNat, b.sps.length].getD 1 0 = b.first.toNat := rfl
  have g2 : [b.host.toNat, b.first.toNat, b.sps.length].getD 2 0 = b.sps.length := rfl
  simp only [g0, g1, g2]
  rw [if_neg (by omega), h3]
  have e1 : ((b.host.toNat : Nat) : Int) = b.host := by omega
  have e2 : ((b.first.toNat : Nat) : Int) = b.first := by omega
  simp only [e1, e2]
  rw [if_pos ⟨by simp; omega, hm⟩]
theorem decA_enc {b : Ak} (h : aMay b = true) : decA (encA b) = some b := by
  have hb := aMay_true.1 h
  have h1 := takeN_three 65 b.host.toNat b.first.toNat (b.next - b.first).toNat [] (by omega) (by omega) (by omega)
  rw [List.append_nil] at h1
  unfold decA
  have h0 : hd (encA b) = 65 := rfl
  have he : encA b = 65 :: encN [b.host.toNat, b.first.toNat, (b.next - b.first).toNat] := rfl
  rw [if_pos h0, he, h1]
  have g0 : [b.host.toNat, b.first.toNat, (b.next - b.first).toNat].getD 0 0 = b.host.toNat := rfl
  have g1 : [b.host.toNat, b.first.toNat, (b.next - b.first).toNat].getD 1 0 = b.first.toNat := rfl
  have g2 : [b.host.toNat, b.first.toNat, (b.next - b.first).toNat].getD 2 0 = (b.next - b.first).toNat := rfl
  have e1 : ((b.host.toNat : Nat) : Int) = b.host := by omega
  have e2 : ((b.first.toNat : Nat) : Int) = b.first := by omega
  have e3 : ((b.first.toNat + (b.next - b.first).toNat : Nat) : Int) = b.next := by omega
  simp only [g0, g1, g2]
  rw [e1, e2, e3]
  rw [if_pos ⟨by simp; omega, by omega, h⟩]
/-- No bytes are of both kinds. -/
theorem hd_encB (b : Bt) : hd (encB b) = 66 := rfl
theorem hd_encA (b : Ak) : hd (encA b) = 65 := rfl
theorem decA_hd {l : List UInt8} (h : hd l ≠ 65) : decA l = none := by unfold decA; rw [if_neg h]
theorem decB_hd {l : List UInt8} (h : hd l ≠ 66) : decB l = none := by unfold decB; rw [if_neg h]

theorem encT_max {ts : List (List UInt8)} (h : ∀ t ∈ ts, t.length ≤ 90) : (encT ts).length ≤ 91 * ts.length := by
  induction ts with
  | nil => simp [encT]
  | cons t ts ih =>
    have one : (putN 90).length = 1 := by decide
    have h1 := putN_len_mono t.length 90 (h t (by simp))
    have h2 := h t (by simp)
    have h3 := ih (fun u hu => h u (by simp [hu]))
    simp only [encT, putT, List.flatMap_cons, List.length_append, List.length_cons] at *
    omega
theorem encB_len {b : Bt} (h : bOk b = true) : (encB b).length ≤ 800 := by
  obtain ⟨hm, ha⟩ : bMay b = true ∧ b.sps.all mayB = true := by simpa [bOk] using h
  have hb := bMay_true.1 hm
  have h1 := encT_max (ts := b.sps.map enc) (fun t ht => by
    obtain ⟨x, hx, rfl⟩ := List.mem_map.1 ht
    exact enc_len (List.all_eq_true.1 ha x hx))
  have h2 := encN_len [b.host.toNat, b.first.toNat, b.sps.length]
  rw [List.length_map] at h1
  unfold encB
  rw [List.length_cons, List.length_append]
  simp only [List.length_cons, List.length_nil] at h2
  omega

/-- What is cut off: a proper beginning is no batch's. -/
theorem gets_more {l m : List UInt8} {at_ : Int} {n next : Nat} (h : gets l at_ = some (n, next)) : gets (l ++ m) at_ = some (n, next) := by
  have hb := gets_bounds h
  have e : l ++ m = l.take at_.toNat ++ putN n ++ (l.drop next ++ m) := by
    have e1 : l = l.take at_.toNat ++ l.drop at_.toNat := (List.take_append_drop _ _).symm
    have e2 : l.drop at_.toNat = (l.drop at_.toNat).take (next - at_.toNat) ++ l.drop next := by
      have : (l.drop at_.toNat).drop (next - at_.toNat) = l.drop next := by rw [List.drop_drop, show at_.toNat + (next - at_.toNat) = next from by omega]
      rw [← this, List.take_append_drop]
    rw [hb.2.2.2.2.2]
    calc l ++ m = (l.take at_.toNat ++ l.drop at_.toNat) ++ m := by rw [← e1]
      _ = (l.take at_.toNat ++ ((l.drop at_.toNat).take (next - at_.toNat) ++ l.drop next)) ++ m := by rw [← e2]
      _ = _ := by simp only [List.append_assoc]
  have hl : (l.take at_.toNat).length = at_.toNat := by rw [List.length_take]; omega
  have hg := gets_put (l.take at_.toNat) (l.drop next ++ m) n hb.2.2.2.1
  rw [← e, hl] at hg
  have hn : (putN n).length = next - at_.toNat := by
    rw [hb.2.2.2.2.2, List.length_take, List.length_drop]; omega
  rw [show ((at_.toNat : Nat) : Int) = at_ from by omega, hn, show at_.toNat + (next - at_.toNat) = next from by omega] at hg
  exact hg
theorem getTs_more {l m : List UInt8} {at_ : Int} {t : List UInt8} {next : Nat} (h : getTs l at_ = some (t, next)) : getTs (l ++ m) at_ = some (t, next) := by
  unfold getTs at h ⊢
  cases hg : gets l at_ with
  | none => rw [hg] at h; cases h
  | some r =>
    obtain ⟨n, d⟩ := r
    rw [hg] at h
    rw [gets_more hg]
    simp only at h ⊢
    split at h
    · rename_i hr
      rw [if_pos (by rw [List.length_append]; omega)]
      simp only [Option.some.injEq, Prod.mk.injEq] at h ⊢
      refine ⟨?_, h.2⟩
      rw [← h.1, List.drop_append_of_le_length (by omega), List.take_append_of_le_length (by rw [List.length_drop]; omega)]
    · cases h
theorem takeN_more : ∀ {k : Nat} {l m : List UInt8} {a : Nat} {ns : List Nat} {b : Nat}, takeN k l a = some (ns, b) → takeN k (l ++ m) a = some (ns, b)
  | 0, l, m, a, ns, b, h => h
  | k + 1, l, m, a, ns, b, h => by
    simp only [takeN] at h ⊢
    split at h
    · cases h
    · rename_i ms c hm
      rw [takeN_more hm]
      split at h
      · cases h
      · rename_i n d hg
        simp only [gets_more hg]
        exact h
theorem takeS_more : ∀ {k : Nat} {l m : List UInt8} {a : Nat} {xs : List Sp} {b : Nat}, takeS k l a = some (xs, b) → takeS k (l ++ m) a = some (xs, b)
  | 0, l, m, a, ns, b, h => h
  | k + 1, l, m, a, ns, b, h => by
    simp only [takeS] at h ⊢
    split at h
    · cases h
    · rename_i ms c hm
      rw [takeS_more hm]
      split at h
      · cases h
      · rename_i n d hg
        simp only [getTs_more hg]
        exact h
theorem hd_more {l m : List UInt8} {n : Nat} (hn : 0 < n) (h : hd l = n) : hd (l ++ m) = n := by
  obtain ⟨c, r, rfl, hc⟩ := hd_cons hn h
  simpa [hd] using hc
/-- Of bytes with something behind them nothing is decoded. -/
theorem decB_more {l m : List UInt8} {b : Bt} (h : decB l = some b) (hm : m ≠ []) : decB (l ++ m) = none := by
  have hpos : 0 < m.length := List.length_pos_iff.2 hm
  unfold decB at h ⊢
  split at h
  · rename_i h0
    rw [if_pos (hd_more (by omega) h0)]
    cases h1 : takeN 3 l 1 with
    | none => simp [h1] at h
    | some r =>
      obtain ⟨ns, a⟩ := r
      rw [takeN_more h1]
      simp only [h1] at h ⊢
      split at h
      · cases h
      · rename_i h8
        rw [if_neg h8]
        cases h2 : takeS (ns.getD 2 0) l a with
        | none => simp only [h2] at h; cases h
        | some q =>
          obtain ⟨xs, c⟩ := q
          rw [takeS_more h2]
          simp only [h2] at h ⊢
          split at h
          · rename_i hc
            rw [if_neg (by rw [List.length_append]; omega)]
          · cases h
  · cases h
theorem decA_more {l m : List UInt8} {b : Ak} (h : decA l = some b) (hm : m ≠ []) : decA (l ++ m) = none := by
  have hpos : 0 < m.length := List.length_pos_iff.2 hm
  unfold decA at h ⊢
  split at h
  · rename_i h0
    rw [if_pos (hd_more (by omega) h0)]
    cases h1 : takeN 3 l 1 with
    | none => simp [h1] at h
    | some r =>
      obtain ⟨ns, a⟩ := r
      rw [takeN_more h1]
      simp only [h1] at h ⊢
      split at h
      · rename_i hc
        rw [if_neg (by rw [List.length_append]; omega)]
      · cases h
  · cases h
/-- Of what is cut off nothing is decoded. -/
theorem decB_cut {b : Bt} (hf : ∀ x ∈ b.sps, x.fits) (h : bOk b = true) (i : Nat) (hi : i < (encB b).length) : decB ((encB b).take i) = none := by
  cases hd : decB ((encB b).take i) with
  | none => rfl
  | some c =>
    have hm := decB_more hd (m := (encB b).drop i) (fun e => by have := congrArg List.length e; simp at this; omega)
    rw [List.take_append_drop, decB_enc hf h] at hm
    cases hm
theorem decA_cut {b : Ak} (h : aMay b = true) (i : Nat) (hi : i < (encA b).length) : decA ((encA b).take i) = none := by
  cases hd : decA ((encA b).take i) with
  | none => rfl
  | some c =>
    have hm := decA_more hd (m := (encA b).drop i) (fun e => by have := congrArg List.length e; simp at this; omega)
    rw [List.take_append_drop, decA_enc h] at hm
    cases hm
theorem encB_inj {b c : Bt} (hb : ∀ x ∈ b.sps, x.fits) (hc : ∀ x ∈ c.sps, x.fits) (h : bOk b = true) (k : bOk c = true) (e : encB b = encB c) : b = c := by
  have h1 := decB_enc hb h
  have h2 := decB_enc hc k
  rw [e, h2] at h1
  injection h1 with h1
  exact h1.symm
theorem encA_inj {b c : Ak} (h : aMay b = true) (k : aMay c = true) (e : encA b = encA c) : b = c := by
  have h1 := decA_enc h
  have h2 := decA_enc k
  rw [e, h2] at h1
  injection h1 with h1
  exact h1.symm

end Go.Proofs.Ythidmgnfdikppaa.M

/- Layer 12: which batches and acks may be; acks' bytes: the program's functions and the document's, each by a contract. -/
namespace Go.Proofs.Ythidmgnfdikppaa
set_option linter.unusedVariables false
open Go Go.RowKit
attribute [local go_sem ↓] run_index_S
attribute [local go_sem] S_append S_extract

def M.numB (h f : Int) : Bool := M.win h 0 3 && M.win f 0 2147483647
theorem M.numB_true {h f : Int} : M.numB h f = true ↔ (0 ≤ h ∧ h ≤ 3) ∧ (0 ≤ f ∧ f ≤ 2147483647) := by simp only [M.numB, Bool.and_eq_true, M.win_true]
end Go.Proofs.Ythidmgnfdikppaa

/- Layer 12: acks' bytes, the program's and the document's, each by a contract; slices of spans. -/
namespace Go.Proofs.Ythidmgnfdikppaa
set_option linter.unusedVariables false
open Go Go.RowKit
attribute [local go_sem ↓] run_index_S
attribute [local go_sem] S_append S_extract

theorem S_appendA (c : UInt8) (b : List UInt8) : (⟨#[c]⟩ ++ ⟨b.toArray⟩ : ByteArray) = ⟨([c] ++ b).toArray⟩ := S_append [c] b

end Go.Proofs.Ythidmgnfdikppaa

/- Layer 12: slices of spans; a batch's bytes, the program's and the document's, each by a contract. -/
namespace Go.Proofs.Ythidmgnfdikppaa
set_option linter.unusedVariables false
open Go Go.RowKit
attribute [local go_sem ↓] run_index_S
attribute [local go_sem] S_append S_extract

/-- A span's cells at a place of a block. -/
def SpOff (x : M.Sp) (w : World) (g o : Nat) : Prop :=
  w.cell? ⟨g, o, none⟩ = some (.int .i64 x.trace) ∧ w.cell? ⟨g, o + 1, none⟩ = some (.int .i64 x.id) ∧ w.cell? ⟨g, o + 2, none⟩ = some (.int .i64 x.parent) ∧ w.cell? ⟨g, o + 3, none⟩ = some (.string (S x.svc)) ∧
  w.cell? ⟨g, o + 4, none⟩ = some (.string (S x.host)) ∧ w.cell? ⟨g, o + 5, none⟩ = some (.int .i64 x.start) ∧ w.cell? ⟨g, o + 6, none⟩ = some (.int .i64 x.dur) ∧ w.cell? ⟨g, o + 7, none⟩ = some (.string (S x.note))
theorem SpOff.below {x : M.Sp} {w w' : World} {g o : Nat} (h : SpOff x w g o) (hb : Below w.heap.size w w') : SpOff x w' g o := by
  have k := fun {a v} (h : w.cell? a = some v) => (hb.cell (p := a) (block_lt_of_cell h)).trans h
  obtain ⟨h0, h1, h2, h3, h4, h5, h6, h7⟩ := h
  exact ⟨k h0, k h1, k h2, k h3, k h4, k h5, k h6, k h7⟩
/-- A slice of spans, whose cells are known. -/
def SpsAt (w : World) (ao : Option Addr) (L : List M.Sp) : Prop := L ≠ [] → ∃ g off, ao = some ⟨g, off, none⟩ ∧ ∀ j, j < L.length → SpOff (L.getD j M.sp0) w g (off + j * 8)
theorem SpsAt.below {w w' : World} {ao : Option Addr} {L : List M.Sp} (h : SpsAt w ao L) (hb : Below w.heap.size w w') : SpsAt w' ao L := fun hn => by
  obtain ⟨g, off, e, hc⟩ := h hn
  exact ⟨g, off, e, fun j hj => (hc j hj).below hb⟩
theorem SpsAt.off {w : World} {ao : Option Addr} {L : List M.Sp} (h : SpsAt w ao L) (j : Nat) (hj : j < L.length) : ∃ g off, ao = some ⟨g, off, none⟩ ∧ SpOff (L.getD j M.sp0) w g (off + j * 8) := by
  obtain ⟨g, off, e, hc⟩ := h (fun h => by rw [h] at hj; simp at hj)
  exact ⟨g, off, e, hc j hj⟩

/-- A batch's bytes as far as its first k spans. -/
def M.encK (b : M.Bt) (k : Nat) : List UInt8 := 66 :: (M.encN [b.host.toNat, b.first.toNat, b.sps.length] ++ M.encT ((b.sps.take k).map M.enc))
theorem M.encK_zero (b : M.Bt) : M.encK b 0 = 66 :: (M.putN b.host.toNat ++ M.putN b.first.toNat ++ M.putN b.sps.length) := by simp [M.encK, M.encN, M.encT]
theorem M.encK_step (b : M.Bt) (k : Nat) (h : k < b.sps.length) : M.encK b (k + 1) = M.encK b k ++ (M.putN (M.enc (b.sps.getD k M.sp0)).length ++ M.enc (b.sps.getD k M.sp0)) := by
  unfold M.encK
  rw [List.take_succ_eq_append_getElem h, List.map_append, List.map_cons, List.map_nil, M.encT_snoc]
  simp [M.putT, List.getD, List.getElem?_eq_getElem h]
theorem M.encK_all (b : M.Bt) : M.encK b b.sps.length = M.encB b := by simp [M.encK, M.encB]
theorem M.encK_len (b : M.Bt) (k : Nat) (h : ∀ j, j < k → M.mayB (b.sps.getD j M.sp0) = true) (hk : k ≤ b.sps.length) (h8 : b.sps.length ≤ 8) : (M.encK b k).length ≤ 800 := by
  have h1 := M.encT_max (ts := (b.sps.take k).map M.enc) (fun t ht => by
    obtain ⟨x, hx, rfl⟩ := List.mem_map.1 ht
    obtain ⟨j, hj, rfl⟩ := List.getElem_of_mem hx
    have hj' : j < k := by simp at hj; omega
    have := M.enc_len (h j hj')
    rw [List.getElem_take]
    simpa [List.getD, List.getElem?_eq_getElem (show j < b.sps.length by omega)] using this)
  have h2 := M.encN_len [b.host.toNat, b.first.toNat, b.sps.length]
  rw [List.length_map, List.length_take] at h1
  unfold M.encK
  rw [List.length_cons, List.length_append]
  simp only [List.length_cons, List.length_nil] at h2
  omega
theorem M.all_of {L : List M.Sp} (h : ∀ j, j < L.length → M.mayB (L.getD j M.sp0) = true) : L.all M.mayB = true := by
  rw [List.all_eq_true]
  intro x hx
  obtain ⟨j, hj, rfl⟩ := List.getElem_of_mem hx
  simpa [List.getD, List.getElem?_eq_getElem hj] using h j hj
theorem M.all_not {L : List M.Sp} (j : Nat) (hj : j < L.length) (h : M.mayB (L.getD j M.sp0) = false) : L.all M.mayB = false := by
  rw [List.all_eq_false]
  refine ⟨_, List.getElem_mem hj, ?_⟩
  simpa [List.getD, List.getElem?_eq_getElem hj] using h
theorem M.bOk_of {b : M.Bt} (h : M.bMay b = true) (k : b.sps.all M.mayB = true) : M.bOk b = true := by simp [M.bOk, h, k]
theorem M.bOk_no1 {b : M.Bt} (h : M.bMay b = false) : M.bOk b = false := by simp [M.bOk, h]
theorem M.bOk_no2 {b : M.Bt} (k : b.sps.all M.mayB = false) : M.bOk b = false := by simp [M.bOk, k]

def bV (h f : Int) (ao : Option Addr) (n cap : Nat) : Value := .agg #[.int .i64 h, .int .i64 f, .slice ao n cap]
def encBV (b : M.Bt) : Ending := .returned (.tuple #[.string (S (if M.bOk b then M.encB b else [])), .int .i64 (M.errOf (M.bOk b))])
theorem encBV_yes {b : M.Bt} (h : M.bOk b = true) {l : List UInt8} (e : l = M.encB b) : Ending.returned (.tuple #[.string ⟨l.toArray⟩, .int .i64 0]) = encBV b := by simp [encBV, h, M.errOf, e]
theorem encBV_no {b : M.Bt} (h : M.bOk b = false) : Ending.returned (.tuple #[.string ⟨#[]⟩, .int .i64 2]) = encBV b := by simp [encBV, h, M.errOf]

end Go.Proofs.Ythidmgnfdikppaa

/- Layer 12: a batch's bytes, the document's, by a contract. -/
namespace Go.Proofs.Ythidmgnfdikppaa
set_option linter.unusedVariables false
open Go Go.RowKit
attribute [local go_sem ↓] run_index_S
attribute [local go_sem] S_append S_extract

end Go.Proofs.Ythidmgnfdikppaa

/- Layer 12: the three numbers behind a letter; the ack of bytes, the program's: each by a contract. -/
namespace Go.Proofs.Ythidmgnfdikppaa
set_option linter.unusedVariables false
open Go Go.RowKit
attribute [local go_sem ↓] run_index_S
attribute [local go_sem] S_append S_extract

section
variable {C : Array Value} {T : TypeId} {w : World}
theorem RowIn.rowP {D : Array Value} {b : Nat} (h : RowIn C T w b) : RowIn D T (w.setRow b D) b := setRow_heap w b _ _ _ _ h
theorem RowIn.aboveP {D : Array Value} {b c : Nat} (h : RowIn C T w b) (hlt : b < c) : RowIn C T (w.setRow c D) b := by
  have := below_setRow (Below.refl c w) (Nat.le_refl _) D
  exact (this.block b hlt).trans h
end
theorem szA (w : World) (o : Obj) : (w.alloc o).heap.size = w.heap.size + 1 := by simp
theorem load_struct {T : TypeId} {fs : Array Field} {C : Array Value} (hu : Try.prog.underlying T = some (.struct fs)) (hi : (Try.prog.info? T).map (·.size) = some C.size) {w : World} {g : Nat} (h : RowIn C T w g) :
    (loadVar T ⟨g, 0, none⟩).run Try.prog w = .ok (.agg C) w := run_loadVar_row w g _ _ C (0, 0) _ h hu rfl hi
theorem load_array {T : TypeId} {n : Nat} {e : TypeId} {C : Array Value} (hu : Try.prog.underlying T = some (.array n e)) (hi : (Try.prog.info? T).map (·.size) = some C.size) {w : World} {g : Nat} (h : RowIn C T w g) :
    (loadVar T ⟨g, 0, none⟩).run Try.prog w = .ok (.agg C) w := run_loadVar_row w g _ _ C (0, 0) _ h hu rfl hi
theorem ret_rowP1 {fn : Func} {p : Tmp} {T : TypeId} {v : Value} (hr : fn.results = #[.cell p T]) (tmps : Array Value) (w : World) (g : Nat) (hp : tmps.getD p undef = .pointer (some ⟨g, 0, none⟩)) (hl : (loadVar T ⟨g, 0, none⟩).run Try.prog w = .ok v w) :
    (results fn tmps).run Try.prog w = .ok v w := by
  have hp' : tmps[p]?.getD undef = .pointer (some ⟨g, 0, none⟩) := by simpa using hp
  simp [results, hr, hp', asAddr, hl]
theorem ret_rowP2 {fn : Func} {p q : Tmp} {T : TypeId} {v : Value} (hr : fn.results = #[.cell p T, .tmp q]) (tmps : Array Value) (w : World) (g : Nat) (hp : tmps.getD p undef = .pointer (some ⟨g, 0, none⟩)) (hl : (loadVar T ⟨g, 0, none⟩).run Try.prog w = .ok v w) :
    (results fn tmps).run Try.prog w = .ok (.tuple #[v, tmps.getD q undef]) w := by
  have hp' : tmps[p]?.getD undef = .pointer (some ⟨g, 0, none⟩) := by simpa using hp
  simp [results, hr, hp', asAddr, hl]
theorem ret_rowP3 {fn : Func} {p q r : Tmp} {T : TypeId} {v : Value} (hr : fn.results = #[.cell p T, .tmp q, .tmp r]) (tmps : Array Value) (w : World) (g : Nat) (hp : tmps.getD p undef = .pointer (some ⟨g, 0, none⟩)) (hl : (loadVar T ⟨g, 0, none⟩).run Try.prog w = .ok v w) :
    (results fn tmps).run Try.prog w = .ok (.tuple #[v, tmps.getD q undef, tmps.getD r undef]) w := by
  have hp' : tmps[p]?.getD undef = .pointer (some ⟨g, 0, none⟩) := by simpa using hp
  simp [results, hr, hp', asAddr, hl]

/-- A whole struct or array stored: the world behind it by what it is good for. -/
theorem wpList_store_hid {ops : Array Oper} {rest : List Oper} {o : Oper} {a : Act} {w : World} {Q : Exit → Act → World → Prop} (hgd : o.guard = none) (ty : TypeId) (x y : Operand) (ho : o.op = .store ty x y)
    (g : Nat) (cells : Array Value) (hx : a.eval x = .pointer (some ⟨g, 0, none⟩)) (hy : a.eval y = .agg cells)
    (t : TypeId) (old : Array Value) (hg : RowIn old t w g) (hi : (Try.prog.info? ty).map (·.size) = some cells.size)
    (hold : old.size = cells.size) (h1 : cells.all (·.oneCell') = true)
    (h : ∀ w', RowIn cells t w' g → (∀ B0 W0, B0 ≤ g → Below B0 W0 w → Below B0 W0 w') → (∀ C T b, b < g → RowIn C T w b → RowIn C T w' b) → w'.heap.size = w.heap.size → wpList Try.prog ops Q rest (a.put o.dst undef) w') :
    wpList Try.prog ops Q (o :: rest) a w := by
  refine wpList_store_row hgd ty x y ho g cells hx hy t old hg hi hold h1 (h _ (RowIn.rowP hg) (fun B0 W0 hB hb => below_setRow hb hB _) (fun C T b hlt hr => RowIn.aboveP hr hlt) ?_)
  simp [World.setRow]
theorem hasPrefix_hd (l : List UInt8) (c : UInt8) (hc : c ≠ 0) : Lib.hasPrefix (S l).data.toList (⟨#[c]⟩ : ByteArray).data.toList = decide (M.hd l = c.toNat) := by
  cases l with
  | nil =>
    have : ¬ (0 = c.toNat) := fun h => hc (M.u8_ext (by simpa using h.symm))
    simp [Lib.hasPrefix, M.hd, this]
  | cons b r =>
    by_cases e : b = c
    · subst e; simp [Lib.hasPrefix, M.hd, List.isPrefixOf]
    · have : ¬ (b.toNat = c.toNat) := fun h => e (M.u8_ext h)
      have e' : (c == b) = false := by simpa using fun h => e h.symm
      simp [Lib.hasPrefix, M.hd, List.isPrefixOf, this, e']

def pad3 (ns : List Nat) : Array Value := #[.int .i64 (ns.getD 0 0 : Nat), .int .i64 (ns.getD 1 0 : Nat), .int .i64 (ns.getD 2 0 : Nat)]
theorem pad3_snoc {ns : List Nat} {k : Nat} (hl : ns.length = k) (hk : k < 3) (n : Nat) : (pad3 ns).setIfInBounds k (.int .i64 n) = pad3 (ns ++ [n]) := by
  match ns, hl with
  | [], hl => simp at hl; subst hl; simp [pad3]
  | [_], hl => simp at hl; subst hl; simp [pad3]
  | [_, _], hl => simp at hl; subst hl; simp [pad3]
  | _ :: _ :: _ :: _, hl => simp at hl; omega
theorem pad3_one (ns : List Nat) : (pad3 ns).all (·.oneCell') = true := by simp [pad3, Value.oneCell']
theorem pad3_at (ns : List Nat) (k : Nat) (hk : k < 3) : (pad3 ns)[k]? = some (.int .i64 (ns.getD k 0 : Nat)) := by
  match k, hk with
  | 0, _ => rfl
  | 1, _ => rfl
  | 2, _ => rfl

/-- What 'numbers' comes to. -/
def NumR (b : Bool) (l : List UInt8) (w : World) (e : Ending) (w' : World) : Prop :=
  (∃ ns a, (b = true ∧ M.takeN 3 l 1 = some (ns, a)) ∧ e = .returned (.tuple #[.agg (pad3 ns), .int .i64 (a : Nat), .bool true]) ∧ Below w.heap.size w w') ∨
  (∃ ns, ¬ (b = true ∧ M.takeN 3 l 1 ≠ none) ∧ e = .returned (.tuple #[.agg (pad3 ns), .int .i64 0, .bool false]) ∧ Below w.heap.size w w')

end Go.Proofs.Ythidmgnfdikppaa

/- Layer 12: the ack of bytes, the program's and the document's, each by a contract. -/
namespace Go.Proofs.Ythidmgnfdikppaa
set_option linter.unusedVariables false
open Go Go.RowKit
attribute [local go_sem ↓] run_index_S
attribute [local go_sem] S_append S_extract

def akC (a : M.Ak) : Array Value := #[.int .i64 a.host, .int .i64 a.first, .int .i64 a.next]
theorem akC_one (a : M.Ak) : (akC a).all (·.oneCell') = true := by simp [akC, Value.oneCell']
def ak0 : M.Ak := ⟨0, 0, 0⟩
def akX (r : Option M.Ak) : M.Ak := match r with
  | some x => x
  | none => ak0
def akE (r : Option M.Ak) : Int := match r with
  | some _ => 0
  | none => 30
def decAV (r : Option M.Ak) : Ending := .returned (.tuple #[.agg (akC (akX r)), .int .i64 (akE r)])
theorem decAV_none {r : Option M.Ak} (h : r = none) : Ending.returned (.tuple #[.agg (akC ak0), .int .i64 30]) = decAV r := by rw [h]; rfl
theorem decAV_some {r : Option M.Ak} {a : M.Ak} (h : r = some a) : Ending.returned (.tuple #[.agg (akC a), .int .i64 0]) = decAV r := by rw [h]; rfl
theorem M.wrapA (n0 n1 n2 : Nat) (h1 : n1 ≤ 9223372036854775807) (h2 : n2 ≤ 2147483647) (s : Int) (hs : s = IntKind.i64.wrap ((n1 : Int) + (n2 : Int))) :
    M.aMay ⟨n0, n1, s⟩ = M.aMay ⟨n0, n1, (n1 + n2 : Nat)⟩ ∧ (M.aMay ⟨n0, n1, s⟩ = true → s = (n1 + n2 : Nat)) := by
  by_cases h : n1 + n2 ≤ 9223372036854775807
  · have : s = ((n1 + n2 : Nat) : Int) := by rw [hs, IntWalk.i64_in _ (by omega)]; omega
    rw [this]; exact ⟨rfl, fun _ => rfl⟩
  · have e : s = (n1 : Int) + (n2 : Int) - 18446744073709551616 := by
      rw [hs]; show (if (IntKind.signed .i64 && decide (((n1 : Int) + n2) % 2 ^ 64 ≥ 2 ^ 63)) = true then ((n1 : Int) + n2) % 2 ^ 64 - 2 ^ 64 else ((n1 : Int) + n2) % 2 ^ 64) = _; rw [if_pos (by simp [IntKind.signed]; omega)]; omega
    have f1 : M.aMay ⟨n0, n1, s⟩ = false := M.aMay_false.2 (by dsimp only; omega)
    have f2 : M.aMay ⟨n0, n1, (n1 + n2 : Nat)⟩ = false := M.aMay_false.2 (by dsimp only; omega)
    rw [f1, f2]
    exact ⟨rfl, fun h => by cases h⟩
theorem M.decA_no {l : List UInt8} (h : ¬ (decide (M.hd l = 65) = true ∧ M.takeN 3 l 1 ≠ none)) : M.decA l = none := by
  unfold M.decA
  by_cases h0 : M.hd l = 65
  · rw [if_pos h0]
    cases ht : M.takeN 3 l 1 with
    | none => rfl
    | some r => exact absurd ⟨by simpa using h0, by rw [ht]; simp⟩ h
  · rw [if_neg h0]
theorem M.decA_eq {l : List UInt8} {ns : List Nat} {a : Nat} (h : M.hd l = 65) (ht : M.takeN 3 l 1 = some (ns, a)) : M.decA l = if a = l.length ∧ ns.getD 2 0 ≤ 2147483647 ∧ M.aMay ⟨(ns.getD 0 0 : Nat), (ns.getD 1 0 : Nat), (ns.getD 1 0 + ns.getD 2 0 : Nat)⟩ = true then some ⟨(ns.getD 0 0 : Nat), (ns.getD 1 0 : Nat), (ns.getD 1 0 + ns.getD 2 0 : Nat)⟩ else none := by
  unfold M.decA
  rw [if_pos h]
  simp only [ht]

end Go.Proofs.Ythidmgnfdikppaa

/- Layer 12: the ack of bytes, the document's, by a contract. -/
namespace Go.Proofs.Ythidmgnfdikppaa
set_option linter.unusedVariables false
open Go Go.RowKit
attribute [local go_sem ↓] run_index_S
attribute [local go_sem] S_append S_extract

theorem B_hd (l : List UInt8) : B l 0 = (M.hd l : Int) := rfl
theorem M.hd_pos {l : List UInt8} {n : Nat} (hn : 0 < n) (h : M.hd l = n) : 0 < l.length := by
  obtain ⟨c, r, rfl, _⟩ := M.hd_cons hn h
  simp
theorem M.takeN_g1 {l : List UInt8} (h : M.gets l 1 = none) : M.takeN 3 l 1 = none := M.takeN_none (k := 1) (by have h' : M.gets l ((1 : Nat) : Int) = none := h; simp only [M.takeN, h']) (by omega)
theorem M.takeN_g2 {l : List UInt8} {n0 b0 : Nat} (h : M.gets l 1 = some (n0, b0)) (k : M.gets l b0 = none) : M.takeN 3 l 1 = none := M.takeN_none (k := 2) (by have h' : M.gets l ((1 : Nat) : Int) = some (n0, b0) := h; simp only [M.takeN, h', k]) (by omega)
theorem M.takeN_g3 {l : List UInt8} {n0 b0 n1 b1 : Nat} (h : M.gets l 1 = some (n0, b0)) (k : M.gets l b0 = some (n1, b1)) (j : M.gets l b1 = none) : M.takeN 3 l 1 = none := by have h' : M.gets l ((1 : Nat) : Int) = some (n0, b0) := h; simp only [M.takeN, h', k, j]
theorem M.takeN_g {l : List UInt8} {n0 b0 n1 b1 n2 b2 : Nat} (h : M.gets l 1 = some (n0, b0)) (k : M.gets l b0 = some (n1, b1)) (j : M.gets l b1 = some (n2, b2)) : M.takeN 3 l 1 = some ([n0, n1, n2], b2) := by have h' : M.gets l ((1 : Nat) : Int) = some (n0, b0) := h; simp only [M.takeN, h', k, j]; rfl
theorem M.decA_take {l : List UInt8} (h : M.takeN 3 l 1 = none) : M.decA l = none := M.decA_no (fun x => x.2 h)

end Go.Proofs.Ythidmgnfdikppaa

/- Layer 12: rows of spans that the call itself makes; what the batch of bytes comes to. -/
namespace Go.Proofs.Ythidmgnfdikppaa
set_option linter.unusedVariables false
open Go Go.RowKit

/-- A span's cells; those of many, one behind the other. -/
def spL (x : M.Sp) : List Value := [.int .i64 x.trace, .int .i64 x.id, .int .i64 x.parent, .string (S x.svc), .string (S x.host), .int .i64 x.start, .int .i64 x.dur, .string (S x.note)]
def sps (L : List M.Sp) : List Value := L.flatMap spL
theorem sps_append (a b : List M.Sp) : sps (a ++ b) = sps a ++ sps b := by simp [sps]
theorem sps_one (x : M.Sp) : sps [x] = spL x := by simp [sps]
theorem sps_length (L : List M.Sp) : (sps L).length = L.length * 8 := by
  induction L with
  | nil => rfl
  | cons m t ih => simp only [sps, List.flatMap_cons, List.length_append, List.length_cons] at *; rw [ih]; simp [spL]; omega
theorem sps_get (L : List M.Sp) (j i : Nat) (hj : j < L.length) (hi : i < 8) : (sps L)[j * 8 + i]? = (spL (L.getD j M.sp0))[i]? := by
  induction L generalizing j with
  | nil => simp at hj
  | cons m t ih =>
    rw [show sps (m :: t) = spL m ++ sps t from by simp [sps]]
    cases j with
    | zero => rw [List.getElem?_append_left (by simp [spL]; omega)]; simp
    | succ j =>
      rw [List.getElem?_append_right (by simp [spL]; omega), show (j + 1) * 8 + i - (spL m).length = j * 8 + i from by simp [spL]; omega, ih j (by simpa using hj)]
      simp
section
variable {B sz : Nat} {e : TypeId} {v : Value} {n : Nat} {xs : List Value} {w w' : World}
theorem ownP_below (h : w.ownsRow B e sz v n xs) (hb : Below w.heap.size w w') : w'.ownsRow B e sz v n xs := by
  refine ⟨h.1, ?_⟩
  rcases h.2 with hc | ⟨g, cap, cur, rfl, hBg, hgg, rest⟩
  · exact .inl hc
  · exact .inr ⟨g, cap, cur, rfl, hBg, by rw [hb.block g (Array.getElem?_eq_some_iff.1 hgg).1]; exact hgg, rest⟩
theorem ownP_set (h : w.ownsRow B e sz v n xs) {r : Nat} (hr : r < B) (i : Nat) (u : Value) : (w.setCell ⟨r, i, none⟩ u).ownsRow B e sz v n xs := by
  refine ⟨h.1, ?_⟩
  rcases h.2 with hc | ⟨g, cap, cur, rfl, hBg, hgg, rest⟩
  · exact .inl hc
  · exact .inr ⟨g, cap, cur, rfl, hBg, by rw [Below.heap_setCell _ _ _ _ (show g ≠ r from by omega)]; exact hgg, rest⟩
theorem ownP_row (h : w.ownsRow B e sz v n xs) {r : Nat} (hr : r < B) (C : Array Value) : (w.setRow r C).ownsRow B e sz v n xs := by
  refine ⟨h.1, ?_⟩
  rcases h.2 with hc | ⟨g, cap, cur, rfl, hBg, hgg, rest⟩
  · exact .inl hc
  · exact .inr ⟨g, cap, cur, rfl, hBg, by rw [setRow_other w r g C (show g ≠ r from by omega)]; exact hgg, rest⟩
theorem ownP_mono {B' : Nat} (h : w.ownsRow B e sz v n xs) (hB : B' ≤ B) : w.ownsRow B' e sz v n xs := by
  refine ⟨h.1, ?_⟩
  rcases h.2 with hc | ⟨g, cap, cur, rfl, hBg, hgg, rest⟩
  · exact .inl hc
  · exact .inr ⟨g, cap, cur, rfl, by omega, hgg, rest⟩
theorem ownP_shape (h : w.ownsRow B e sz v n xs) : ∃ ao c, v = .slice ao n c := by
  rcases h.2 with ⟨rfl, rfl⟩ | ⟨g, cap, cur, rfl, _⟩
  · exact ⟨_, _, rfl⟩
  · exact ⟨_, _, rfl⟩
end
theorem RowIn.grownP {C : Array Value} {T : TypeId} {w w' : World} {b : Nat} {row : Option Nat} (h : RowIn C T w b) (hg : w.grownBy w' row) (hne : ∀ q, row = some q → q ≠ b) : RowIn C T w' b := by
  have hl := h.lt
  unfold RowIn at *
  rw [hg.block b hl (fun e => hne b e.symm rfl)]; exact h
theorem spsAt_own {B : Nat} {w : World} {ao : Option Addr} {cap n : Nat} {L : List M.Sp} {T : TypeId} (h : w.ownsRow B T 8 (.slice ao n cap) n (sps L)) (hn : n = L.length) : SpsAt w ao L := by
  subst hn
  intro hne
  rcases h.2 with ⟨_, h0⟩ | ⟨g, cap', cur, e, _, hg, _⟩
  · exact absurd (List.eq_nil_of_length_eq_zero h0) hne
  · injection e with e1 e2 e3
    subst e1
    refine ⟨g, 0, rfl, fun j hj => ?_⟩
    have hc := fun i u (hu : (sps L)[i]? = some u) => h.cells (g := g) rfl i u hu
    have ha : ∀ n : Nat, (⟨g, 0, none⟩ : Addr).add n = ⟨g, n, none⟩ := fun n => by unfold Addr.add; split <;> simp_all
    have k := fun i (hi : i < 8) => sps_get L j i hj hi
    simp only [ha] at hc
    rw [Nat.zero_add]
    exact ⟨hc _ _ ((k 0 (by omega)).trans rfl), hc _ _ ((k 1 (by omega)).trans rfl), hc _ _ ((k 2 (by omega)).trans rfl), hc _ _ ((k 3 (by omega)).trans rfl), hc _ _ ((k 4 (by omega)).trans rfl), hc _ _ ((k 5 (by omega)).trans rfl), hc _ _ ((k 6 (by omega)).trans rfl), hc _ _ ((k 7 (by omega)).trans rfl)⟩
theorem sp_new (w : World) (x : M.Sp) (T : TypeId) : ∀ j u, (spL x)[j]? = some u → (w.alloc (.cells #[.int .i64 x.trace, .int .i64 x.id, .int .i64 x.parent, .string (S x.svc), .string (S x.host), .int .i64 x.start, .int .i64 x.dur, .string (S x.note)] T)).cell? ((⟨w.heap.size, 0, none⟩ : Addr).add j) = some u := by
  intro j u h
  have hadd : (⟨w.heap.size, 0, none⟩ : Addr).add j = ⟨w.heap.size, j, none⟩ := by unfold Addr.add; split <;> simp_all
  rw [hadd, (rowIn_new _ T w).cell j]
  simpa [spL] using h
theorem spL_one (x : M.Sp) : ∀ u ∈ spL x, u.oneCell' = true := by simp [spL, Value.oneCell']

/-- A batch's cells. -/
def btC (h f : Int) (v : Value) : Array Value := #[.int .i64 h, .int .i64 f, v]
def bz : Array Value := btC 0 0 (.slice none 0 0)
theorem btC_one (h f : Int) (ao : Option Addr) (n cap : Nat) : (btC h f (.slice ao n cap)).all (·.oneCell') = true := by simp [btC, Value.oneCell']
theorem bz_one : bz.all (·.oneCell') = true := btC_one 0 0 none 0 0
theorem M.decB_none {l : List UInt8} (h : ¬ (decide (M.hd l = 66) = true ∧ M.takeN 3 l 1 ≠ none)) : M.decB l = none := by
  unfold M.decB
  by_cases h0 : M.hd l = 66
  · rw [if_pos h0]
    cases ht : M.takeN 3 l 1 with
    | none => rfl
    | some r => exact absurd ⟨by simpa using h0, by rw [ht]; simp⟩ h
  · rw [if_neg h0]
theorem M.decB_eight {l : List UInt8} {ns : List Nat} {a : Nat} (h : M.hd l = 66) (ht : M.takeN 3 l 1 = some (ns, a)) (h8 : 8 < ns.getD 2 0) : M.decB l = none := by
  unfold M.decB
  rw [if_pos h]
  simp only [ht]
  rw [if_pos h8]
theorem M.decB_eq {l : List UInt8} {ns : List Nat} {a : Nat} (h : M.hd l = 66) (ht : M.takeN 3 l 1 = some (ns, a)) (h8 : ¬ 8 < ns.getD 2 0) : M.decB l = match M.takeS (ns.getD 2 0) l a with
    | none => none
    | some (xs, c) => if c = l.length ∧ M.bMay ⟨(ns.getD 0 0 : Nat), (ns.getD 1 0 : Nat), xs⟩ = true then some ⟨(ns.getD 0 0 : Nat), (ns.getD 1 0 : Nat), xs⟩ else none := by
  unfold M.decB
  rw [if_pos h]
  simp only [ht]
  refine (if_neg h8).trans ?_
  cases M.takeS (ns.getD 2 0) l a with
  | none => rfl
  | some q => rfl
theorem M.getTs_len {l : List UInt8} {at_ : Int} {t : List UInt8} {c : Nat} (h : M.getTs l at_ = some (t, c)) : t.length ≤ l.length ∧ c ≤ l.length := by
  unfold M.getTs at h
  split at h
  · split at h
    · simp only [Option.some.injEq, Prod.mk.injEq] at h
      obtain ⟨rfl, rfl⟩ := h
      refine ⟨by simp; omega, by assumption⟩
    · cases h
  · cases h
theorem M.takeS_len {k : Nat} {l : List UInt8} {a : Nat} {xs : List M.Sp} {b : Nat} (h : M.takeS k l a = some (xs, b)) : xs.length = k := (M.takeS_takeT h).2.1

end Go.Proofs.Ythidmgnfdikppaa

/- Layer 12: the batch of bytes, the program's, by a contract. -/
namespace Go.Proofs.Ythidmgnfdikppaa
set_option linter.unusedVariables false
open Go Go.RowKit
attribute [local go_sem ↓] run_index_S
attribute [local go_sem] S_append S_extract

end Go.Proofs.Ythidmgnfdikppaa

/- Layer 12: the batch of bytes, the document's, by a contract. -/
namespace Go.Proofs.Ythidmgnfdikppaa
set_option linter.unusedVariables false
open Go Go.RowKit
attribute [local go_sem ↓] run_index_S
attribute [local go_sem] S_append S_extract

theorem M.may_fits {x : M.Sp} (h : M.mayB x = true) : x.fits := by
  obtain ⟨h1, h2, h3, h4, h5, h6, h7, h8⟩ := M.mayB_parts h
  have h9 := M.nameB_len h4
  have h10 := M.nameB_len h5
  constructor <;> omega
theorem M.takeS_may {k : Nat} {l : List UInt8} {a : Nat} {xs : List M.Sp} {b : Nat} (h : M.takeS k l a = some (xs, b)) : xs.all M.mayB = true ∧ ∀ x ∈ xs, x.fits := by
  have h1 := (M.takeS_takeT h).2.2
  exact ⟨h1, fun x hx => M.may_fits (List.all_eq_true.1 h1 x hx)⟩
theorem M.decB_take {l : List UInt8} (h : M.takeN 3 l 1 = none) : M.decB l = none := M.decB_none (fun x => x.2 h)
theorem encBV_bad {b : M.Bt} (h : M.bOk b = false) : encBV b = Ending.returned (.tuple #[.string ⟨#[]⟩, .int .i64 2]) := (encBV_no h).symm
theorem encBV_good {b : M.Bt} (h : M.bOk b = true) : encBV b = Ending.returned (.tuple #[.string (S (M.encB b)), .int .i64 0]) := (encBV_yes h rfl).symm

end Go.Proofs.Ythidmgnfdikppaa

/- Layer 12: the law's own helpers: SameSpans, SameBatch, great, by contracts. -/
namespace Go.Proofs.Ythidmgnfdikppaa
set_option linter.unusedVariables false
open Go Go.RowKit

theorem M.sps_ext {L K : List M.Sp} (h : L.length = K.length) (hj : ∀ j, j < L.length → L.getD j M.sp0 = K.getD j M.sp0) : L = K := by
  apply List.ext_getElem h
  intro j h1 h2
  have := hj j h1
  simpa [List.getD, List.getElem?_eq_getElem h1, List.getElem?_eq_getElem h2] using this
theorem M.Sp.diff {x y : M.Sp} (h : ¬ x = y) : (¬ x.trace = y.trace) ∨ (x.trace = y.trace ∧ ¬ x.id = y.id) ∨ (x.trace = y.trace ∧ x.id = y.id ∧ ¬ x.parent = y.parent) ∨ (x.trace = y.trace ∧ x.id = y.id ∧ x.parent = y.parent ∧ ¬ x.svc = y.svc) ∨ (x.trace = y.trace ∧ x.id = y.id ∧ x.parent = y.parent ∧ x.svc = y.svc ∧ ¬ x.host = y.host) ∨ (x.trace = y.trace ∧ x.id = y.id ∧ x.parent = y.parent ∧ x.svc = y.svc ∧ x.host = y.host ∧ ¬ x.start = y.start) ∨ (x.trace = y.trace ∧ x.id = y.id ∧ x.parent = y.parent ∧ x.svc = y.svc ∧ x.host = y.host ∧ x.start = y.start ∧ ¬ x.dur = y.dur) ∨ (x.trace = y.trace ∧ x.id = y.id ∧ x.parent = y.parent ∧ x.svc = y.svc ∧ x.host = y.host ∧ x.start = y.start ∧ x.dur = y.dur ∧ ¬ x.note = y.note) := by
  by_cases h0 : x.trace = y.trace
  case neg => exact .inl h0
  by_cases h1 : x.id = y.id
  case neg => exact .inr (.inl ⟨h0, h1⟩)
  by_cases h2 : x.parent = y.parent
  case neg => exact .inr (.inr (.inl ⟨h0, h1, h2⟩))
  by_cases h3 : x.svc = y.svc
  case neg => exact .inr (.inr (.inr (.inl ⟨h0, h1, h2, h3⟩)))
  by_cases h4 : x.host = y.host
  case neg => exact .inr (.inr (.inr (.inr (.inl ⟨h0, h1, h2, h3, h4⟩))))
  by_cases h5 : x.start = y.start
  case neg => exact .inr (.inr (.inr (.inr (.inr (.inl ⟨h0, h1, h2, h3, h4, h5⟩)))))
  by_cases h6 : x.dur = y.dur
  case neg => exact .inr (.inr (.inr (.inr (.inr (.inr (.inl ⟨h0, h1, h2, h3, h4, h5, h6⟩))))))
  by_cases h7 : x.note = y.note
  case neg => exact .inr (.inr (.inr (.inr (.inr (.inr (.inr (⟨h0, h1, h2, h3, h4, h5, h6, h7⟩)))))))
  exact absurd (M.Sp.ext' h0 h1 h2 h3 h4 h5 h6 h7) h
/-- The same, or not. -/
def SameR (p : Prop) (w : World) (e : Ending) (w' : World) : Prop := (p → e = .returned (.bool true)) ∧ (¬ p → e = .returned (.bool false)) ∧ Below w.heap.size w w'
theorem SameR.yes {p : Prop} (h : p) {w w' : World} (hb : Below w.heap.size w w') : SameR p w (.returned (.bool true)) w' := ⟨fun _ => rfl, fun k => absurd h k, hb⟩
theorem SameR.no {p : Prop} (h : ¬ p) {w w' : World} (hb : Below w.heap.size w w') : SameR p w (.returned (.bool false)) w' := ⟨fun k => absurd k h, fun _ => rfl, hb⟩

end Go.Proofs.Ythidmgnfdikppaa

/- Layer 12: SameBatch, great, some, by contracts. -/
namespace Go.Proofs.Ythidmgnfdikppaa
set_option linter.unusedVariables false
open Go Go.RowKit

theorem M.Bt.ext' {b c : M.Bt} (h1 : b.host = c.host) (h2 : b.first = c.first) (h3 : b.sps = c.sps) : b = c := by
  cases b; cases c; simp_all

def SmallS (x : M.Sp) : Prop := x.svc.length ≤ 500 ∧ x.host.length ≤ 500 ∧ x.note.length ≤ 500
def SmallB (L : List M.Sp) : Prop := L.length ≤ 50 ∧ ∀ x ∈ L, SmallS x
theorem smallB_of {L : List M.Sp} (h : L.length ≤ 50) (hj : ∀ j, j < L.length → SmallS (L.getD j M.sp0)) : SmallB L := by
  refine ⟨h, fun x hx => ?_⟩
  obtain ⟨j, hj', rfl⟩ := List.getElem_of_mem hx
  simpa [List.getD, List.getElem?_eq_getElem hj'] using hj j hj'
def GreatR (L : List M.Sp) (w : World) (e : Ending) (w' : World) : Prop := (e = .returned (.bool true) ∨ (e = .returned (.bool false) ∧ SmallB L)) ∧ Below w.heap.size w w'

def s1 : M.Sp := { trace := 1, id := 2, parent := 0, svc := [115], host := [104], start := 3, dur := 0, note := [] }
theorem spsAt_one {x : M.Sp} {T : TypeId} {w : World} {b : Nat} (h : RowIn (spC x) T w b) : SpsAt w (some ⟨b, 0, none⟩) [x] := fun _ => by
  refine ⟨b, 0, rfl, fun j hj => ?_⟩
  obtain rfl : j = 0 := by simpa using hj
  exact ⟨h.cell 0, h.cell 1, h.cell 2, h.cell 3, h.cell 4, h.cell 5, h.cell 6, h.cell 7⟩
end Go.Proofs.Ythidmgnfdikppaa

/- Layer 12: the chapter's examples (spoorlaw12.does) come out true. -/
namespace Go.Proofs.Ythidmgnfdikppaa
set_option linter.unusedVariables false
open Go Go.RowKit
attribute [local go_sem ↓] run_index_S
attribute [local go_sem] S_append S_extract

theorem s1_fits : s1.fits := by constructor <;> decide
theorem p_e1 : M.encA ⟨2, 300, 305⟩ = [65, 2, 130, 44, 5] := by decide
theorem p_m1 : M.aMay ⟨2, 300, 305⟩ = true := by decide
theorem p_m2 : M.aMay ⟨0, 300, 299⟩ = false := by decide
theorem p_d1 : M.decA [65, 2, 130, 44, 5] = some ⟨2, 300, 305⟩ := by rfl
theorem p_d2 : M.decB [65, 2, 130, 44, 5] = none := by rfl
theorem p_e2 : M.encB ⟨0, 7, [s1]⟩ = [66, 0, 7, 1, 10, 1, 2, 0, 3, 0, 1, 115, 1, 104, 0] := by decide
theorem p_ok : M.bOk ⟨0, 7, [s1]⟩ = true := by decide
theorem p_d3 : M.decB [66, 0, 7, 1, 10, 1, 2, 0, 3, 0, 1, 115, 1, 104, 0] = some ⟨0, 7, [s1]⟩ := by rfl
theorem SameR.is {p : Prop} {w : World} {e : Ending} {w' : World} (h : SameR p w e w') (hp : p) : e = .returned (.bool true) ∧ Below w.heap.size w w' := ⟨h.1 hp, h.2.2⟩
theorem SpsAt.same {w w' : World} {ao : Option Addr} {L : List M.Sp} (h : SpsAt w ao L) (he : w'.heap = w.heap) : SpsAt w' ao L := by
  have e : ∀ a, w'.cell? a = w.cell? a := fun a => by unfold World.cell?; rw [he]
  intro hn
  obtain ⟨g, off, e1, hc⟩ := h hn
  refine ⟨g, off, e1, fun j hj => ?_⟩
  have := hc j hj
  unfold SpOff at *
  simp only [e]
  exact this

end Go.Proofs.Ythidmgnfdikppaa

/- Layer 12: what comes in: batches and acks. -/
namespace Go.Proofs.Ythidmgnfdikppaa
set_option linter.unusedVariables false
open Go Go.RowKit

structure M.Ak.ints (y : M.Ak) : Prop where
  h1 : -9223372036854775808 ≤ y.host
  h2 : y.host ≤ 9223372036854775807
  f1 : -9223372036854775808 ≤ y.first
  f2 : y.first ≤ 9223372036854775807
  n1 : -9223372036854775808 ≤ y.next
  n2 : y.next ≤ 9223372036854775807
theorem i64_wfP {n : Int} (h : (Lit.int .i64 n).wf = true) : -9223372036854775808 ≤ n ∧ n ≤ 9223372036854775807 := by
  simp [Lit.wf, IntKind.min, IntKind.max, IntKind.signed, IntKind.bits] at h
  omega
theorem mapM_getP {f : Nat → Option Value} : ∀ (l : List Nat) (cs : List Value), l.mapM f = some cs → cs.length = l.length ∧ ∀ (j : Nat) (u : Value), cs[j]? = some u → ∃ i : Nat, l[j]? = some i ∧ f i = some u
  | [], cs, h => by simp at h; subst h; simp
  | a :: l, cs, h => by
    rw [List.mapM_cons] at h
    cases hf : f a with
    | none => simp [hf] at h
    | some v =>
      cases hm : l.mapM f with
      | none => simp [hf, hm] at h
      | some vs =>
        simp [hf, hm] at h
        subst h
        obtain ⟨h1, h2⟩ := mapM_getP l vs hm
        refine ⟨by simp [h1], fun j u hj => ?_⟩
        cases j with
        | zero => simp at hj; exact ⟨a, rfl, by rw [hf, hj]⟩
        | succ j => simpa using h2 j u (by simpa using hj)
theorem cells_getP {w : World} {B n : Nat} {a : Addr} {cs : List Value} (h : w.cells? B a n = some cs) : ∀ j u, cs[j]? = some u → w.cell? (a.add j) = some u := by
  unfold World.cells? at h
  split at h
  · intro j u hj
    obtain ⟨_, h2⟩ := mapM_getP _ _ h
    obtain ⟨i, hi, hf⟩ := h2 j u hj
    obtain ⟨hlt, e⟩ := List.getElem?_eq_some_iff.1 hi
    simp at e
    subst e
    exact hf
  · cases h
theorem addr_plainP {w : World} {a : Addr} {u : Value} (h : w.cell? a = some u) : a = ⟨a.block, a.off, none⟩ := by
  obtain ⟨b, o, s⟩ := a
  cases s with
  | none => rfl
  | some s =>
    unfold World.cell? at h
    split at h <;> simp at h
theorem choose_listP {α : Type} (d : α) (n : Nat) {p : Nat → α → Prop} (h : ∀ i, i < n → ∃ a, p i a) : ∃ l : List α, l.length = n ∧ ∀ i, i < n → p i (l.getD i d) := by
  induction n with
  | zero => exact ⟨[], rfl, fun i hi => by omega⟩
  | succ n ih =>
    obtain ⟨l, hl, hp⟩ := ih fun i hi => h i (by omega)
    obtain ⟨a, ha⟩ := h n (by omega)
    refine ⟨l ++ [a], by simp [hl], fun i hi => ?_⟩
    by_cases hin : i < n
    · rw [show (l ++ [a]).getD i d = l.getD i d from by simp [List.getD, List.getElem?_append_left (show i < l.length by omega)]]
      exact hp i hin
    · obtain rfl : i = n := by omega
      rw [show (l ++ [a]).getD i d = a from by simp [List.getD, ← hl]]
      exact ha
section
variable {H : Type} {enc : TypeId × Value → H} {W : World} {fuel : Nat} {cs : List Value} {x : DataW H × List MemPlace} {B : Nat} {sp : Nat → Bool} {hd : Bool}
end
/-- A batch that comes in. -/
def UBt (W : World) (v : Value) : Prop := ∃ (h f : Int) (L : List M.Sp) (ao : Option Addr) (cap : Nat), v = .agg #[.int .i64 h, .int .i64 f, .slice ao L.length cap] ∧ (-9223372036854775808 ≤ h ∧ h ≤ 9223372036854775807 ∧ -9223372036854775808 ≤ f ∧ f ≤ 9223372036854775807) ∧ L.length ≤ 9223372036854775807 ∧ (∀ x ∈ L, x.ints) ∧ L.length ≤ cap ∧ SpsAt W ao L
/-- An ack that comes in. -/
def UAk (v : Value) : Prop := ∃ y : M.Ak, v = .agg #[.int .i64 y.host, .int .i64 y.first, .int .i64 y.next] ∧ y.ints
section
variable {H : Type} {enc : TypeId × Value → H} {W : World} {r : Reach} {b0 : Nat} {v : Value} {d : DataW H} {p : List MemPlace}
end

end Go.Proofs.Ythidmgnfdikppaa
