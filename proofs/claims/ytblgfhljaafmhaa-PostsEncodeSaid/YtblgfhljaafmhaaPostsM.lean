/- Plain mathematics of layer 12: batches and acks as bytes. No Go here. -/
import Derived.Test.YtblgfhljaafmhaaSpansM2
namespace Go.Proofs.Ytblgfhljaafmhaa.M
set_option linter.unusedVariables false

structure Bt where
  host : Int
  first : Int
  sps : List Sp
structure Ak where
  host : Int
  first : Int
  next : Int

/-- P12.1: which may be, but for its spans. -/
def bMay (b : Bt) : Bool := win b.host 0 3 && win b.first 0 2147483647 && decide (1 ≤ b.sps.length) && decide (b.sps.length ≤ 8) && decide (b.first + b.sps.length ≤ 2147483647)
theorem bMay_true {b : Bt} : bMay b = true ↔ (0 ≤ b.host ∧ b.host ≤ 3) ∧ (0 ≤ b.first ∧ b.first ≤ 2147483647) ∧ 1 ≤ b.sps.length ∧ b.sps.length ≤ 8 ∧ b.first + b.sps.length ≤ 2147483647 := by
  simp only [bMay, Bool.and_eq_true, win_true, decide_eq_true_eq, and_assoc]
theorem bMay_false {b : Bt} : bMay b = false ↔ ¬ ((0 ≤ b.host ∧ b.host ≤ 3) ∧ (0 ≤ b.first ∧ b.first ≤ 2147483647) ∧ 1 ≤ b.sps.length ∧ b.sps.length ≤ 8 ∧ b.first + b.sps.length ≤ 2147483647) := by
  rw [← bMay_true]; simp
def bOk (b : Bt) : Bool := bMay b && b.sps.all mayB
def aMay (a : Ak) : Bool := win a.host 0 3 && decide (0 ≤ a.first) && decide (a.first ≤ a.next) && decide (a.next ≤ 2147483647)
theorem aMay_true {a : Ak} : aMay a = true ↔ (0 ≤ a.host ∧ a.host ≤ 3) ∧ 0 ≤ a.first ∧ a.first ≤ a.next ∧ a.next ≤ 2147483647 := by
  simp only [aMay, Bool.and_eq_true, win_true, decide_eq_true_eq, and_assoc]
theorem aMay_false {a : Ak} : aMay a = false ↔ ¬ ((0 ≤ a.host ∧ a.host ≤ 3) ∧ 0 ≤ a.first ∧ a.first ≤ a.next ∧ a.next ≤ 2147483647) := by
  rw [← aMay_true]; simp

/-- P12.1: their bytes. -/
def encB (b : Bt) : List UInt8 := 66 :: (encN [b.host.toNat, b.first.toNat, b.sps.length] ++ encT (b.sps.map enc))
def encA (a : Ak) : List UInt8 := 65 :: encN [a.host.toNat, a.first.toNat, (a.next - a.first).toNat]

/-- Spans as texts, one behind the other. -/
def takeS : Nat → List UInt8 → Nat → Option (List Sp × Nat)
  | 0, _, a => some ([], a)
  | k + 1, l, a => match takeS k l a with
    | none => none
    | some (xs, b) => match getTs l b with
      | none => none
      | some (t, c) => match dec t with
        | none => none
        | some x => some (xs ++ [x], c)
theorem takeS_none {k m : Nat} {l : List UInt8} {a : Nat} (h : takeS k l a = none) (hkm : k ≤ m) : takeS m l a = none := by
  induction m with
  | zero => obtain rfl : k = 0 := by omega
            exact h
  | succ m ih =>
    by_cases e : k = m + 1
    · subst e; exact h
    · simp [takeS, ih (by omega)]
theorem takeS_takeT : ∀ {k : Nat} {l : List UInt8} {a : Nat} {xs : List Sp} {b : Nat}, takeS k l a = some (xs, b) → takeT k l a = some (xs.map enc, b) ∧ xs.length = k ∧ xs.all mayB = true
  | 0, l, a, xs, b, h => by
    simp only [takeS, Option.some.injEq, Prod.mk.injEq] at h
    obtain ⟨rfl, rfl⟩ := h
    simp [takeT]
  | k + 1, l, a, xs, b, h => by
    simp only [takeS] at h
    split at h
    · simp at h
    · rename_i ys c hm
      split at h
      · simp at h
      · rename_i t d hg
        split at h
        · simp at h
        · rename_i x hd
          simp only [Option.some.injEq, Prod.mk.injEq] at h
          obtain ⟨rfl, rfl⟩ := h
          obtain ⟨h1, h2, h3⟩ := takeS_takeT hm
          obtain ⟨h4, h5⟩ := enc_dec hd
          refine ⟨?_, by simp [h2], ?_⟩
          · simp only [takeT, h1, hg, List.map_append, List.map_cons, List.map_nil, h4]
          · rw [List.all_append, h3]; simp [h5]
theorem takeT_succ {k : Nat} {l : List UInt8} {a : Nat} {ts : List (List UInt8)} {t : List UInt8} {b : Nat} (h : takeT (k + 1) l a = some (ts ++ [t], b)) : ∃ c, takeT k l a = some (ts, c) ∧ getTs l c = some (t, b) := by
  simp only [takeT] at h
  split at h
  · simp at h
  · rename_i us c hm
    split at h
    · simp at h
    · rename_i u d hg
      simp only [Option.some.injEq, Prod.mk.injEq] at h
      obtain ⟨h1, rfl⟩ := h
      obtain ⟨rfl, h2⟩ := List.append_inj' h1 rfl
      simp only [List.cons.injEq, and_true] at h2
      subst h2
      exact ⟨c, hm, hg⟩
theorem takeT_takeS : ∀ {k : Nat} {l : List UInt8} {a : Nat} {xs : List Sp} {b : Nat}, (∀ x ∈ xs, x.fits ∧ mayB x = true) → xs.length = k → takeT k l a = some (xs.map enc, b) → takeS k l a = some (xs, b)
  | 0, l, a, xs, b, hx, hk, h => by
    obtain rfl := List.length_eq_zero_iff.1 hk
    simpa [takeT, takeS] using h
  | k + 1, l, a, xs, b, hx, hk, h => by
    have hne : xs ≠ [] := by intro e; rw [e] at hk; simp at hk
    obtain ⟨ys, x, rfl⟩ : ∃ ys x, xs = ys ++ [x] := ⟨xs.dropLast, xs.getLast hne, (List.dropLast_concat_getLast hne).symm⟩
    rw [List.map_append, List.map_cons, List.map_nil] at h
    obtain ⟨c, h1, h2⟩ := takeT_succ h
    have ih := takeT_takeS (fun y hy => hx y (by simp [hy])) (by simpa using hk) h1
    obtain ⟨f1, f2⟩ := hx x (by simp)
    simp only [takeS, ih, h2, dec_enc f1 f2]

def hd (l : List UInt8) : Nat := (l.getD 0 0).toNat
/-- P12.1: the batch of bytes. -/
def decB (l : List UInt8) : Option Bt :=
  if hd l = 66 then
    match takeN 3 l 1 with
    | none => none
    | some (ns, a) => if 8 < ns.getD 2 0 then none else
      match takeS (ns.getD 2 0) l a with
      | none => none
      | some (xs, c) => if c = l.length ∧ bMay ⟨(ns.getD 0 0 : Nat), (ns.getD 1 0 : Nat), xs⟩ = true then some ⟨(ns.getD 0 0 : Nat), (ns.getD 1 0 : Nat), xs⟩ else none
  else none
/-- P12.1: the ack of bytes. -/
def decA (l : List UInt8) : Option Ak :=
  if hd l = 65 then
    match takeN 3 l 1 with
    | none => none
    | some (ns, a) => if a = l.length ∧ ns.getD 2 0 ≤ 2147483647 ∧ aMay ⟨(ns.getD 0 0 : Nat), (ns.getD 1 0 : Nat), (ns.getD 1 0 + ns.getD 2 0 : Nat)⟩ = true then some ⟨(ns.getD 0 0 : Nat), (ns.getD 1 0 : Nat), (ns.getD 1 0 + ns.getD 2 0 : Nat)⟩ else none
  else none

theorem hd_cons {l : List UInt8} {n : Nat} (hn : 0 < n) (h : hd l = n) : ∃ c r, l = c :: r ∧ c.toNat = n := by
  cases l with
  | nil => simp [hd] at h; omega
  | cons c r => exact ⟨c, r, rfl, by simpa [hd] using h⟩
theorem three {ns : List Nat} (h : ns.length = 3) : ns = [ns.getD 0 0, ns.getD 1 0, ns.getD 2 0] := by
  match ns, h with
  | [_, _, _], _ => rfl
theorem piece_one (c : UInt8) (r : List UInt8) (b : Nat) (h : 1 ≤ b) : c :: piece (c :: r) 1 b = (c :: r).take b := by
  obtain ⟨b, rfl⟩ : ∃ d, b = d + 1 := ⟨b - 1, by omega⟩
  simp [piece]
/-- The bytes of what was taken are those that stand there. -/
theorem encB_take {l : List UInt8} {ns : List Nat} {a c : Nat} {xs : List Sp} (h0 : hd l = 66) (h1 : takeN 3 l 1 = some (ns, a)) (h2 : takeS (ns.getD 2 0) l a = some (xs, c)) :
    encB ⟨(ns.getD 0 0 : Nat), (ns.getD 1 0 : Nat), xs⟩ = l.take c ∧ c ≤ l.length ∧ xs.length = ns.getD 2 0 ∧ xs.all mayB = true := by
  obtain ⟨x, r, rfl, hx⟩ := hd_cons (by omega) h0
  obtain rfl : x = 66 := u8_ext hx
  obtain ⟨e1, e2, e3⟩ := takeS_takeT h2
  have p1 := takeN_piece (by simp) h1
  have p2 := takeT_piece p1.2.1 e1
  refine ⟨?_, p2.2.1, e2, e3⟩
  have l1 := (takeN_len h1).1
  unfold encB
  simp only [Int.toNat_natCast]
  rw [e2, ← three l1, p1.2.2, p2.2.2, piece_join _ 1 a c p1.1 p2.1]
  exact piece_one _ _ _ (by omega)
theorem encA_take {l : List UInt8} {ns : List Nat} {a : Nat} (h0 : hd l = 65) (h1 : takeN 3 l 1 = some (ns, a)) :
    encA ⟨(ns.getD 0 0 : Nat), (ns.getD 1 0 : Nat), (ns.getD 1 0 + ns.getD 2 0 : Nat)⟩ = l.take a ∧ a ≤ l.length := by
  obtain ⟨x, r, rfl, hx⟩ := hd_cons (by omega) h0
  obtain rfl : x = 65 := u8_ext hx
  have p1 := takeN_piece (by simp) h1
  refine ⟨?_, p1.2.1⟩
  have l1 := (takeN_len h1).1
  have e : (((ns.getD 1 0 + ns.getD 2 0 : Nat) : Int) - ((ns.getD 1 0 : Nat) : Int)).toNat = ns.getD 2 0 := by omega
  unfold encA
  simp only [e, Int.toNat_natCast]
  rw [← three l1, p1.2.2]
  exact piece_one _ _ _ (by omega)
theorem take_eq_self {l : List UInt8} {c : Nat} (h : c ≤ l.length) : l.take c = l ↔ c = l.length := by
  constructor
  · intro e
    have := congrArg List.length e
    rw [List.length_take] at this
    omega
  · intro e; subst e; simp

/-- P12.2: what is decoded is encoded. -/
theorem encB_dec {l : List UInt8} {b : Bt} (h : decB l = some b) : encB b = l ∧ bOk b = true := by
  unfold decB at h
  split at h
  · rename_i h0
    cases h1 : takeN 3 l 1 with
    | none => simp [h1] at h
    | some r =>
      obtain ⟨ns, a⟩ := r
      simp only [h1] at h
      split at h
      · simp at h
      · cases h2 : takeS (ns.getD 2 0) l a with
        | none => simp only [h2] at h; cases h
        | some q =>
          obtain ⟨xs, c⟩ := q
          simp only [h2] at h
          split at h
          · rename_i hc
            simp only [Option.some.injEq] at h
            subst h
            obtain ⟨e1, e2, e3, e4⟩ := encB_take h0 h1 h2
            exact ⟨by rw [e1, (take_eq_self e2).2 hc.1], by rw [bOk, hc.2, e4]; rfl⟩
          · cases h
  · cases h
theorem encA_dec {l : List UInt8} {b : Ak} (h : decA l = some b) : encA b = l ∧ aMay b = true := by
  unfold decA at h
  split at h
  · rename_i h0
    cases h1 : takeN 3 l 1 with
    | none => simp [h1] at h
    | some r =>
      obtain ⟨ns, a⟩ := r
      simp only [h1] at h
      split at h
      · rename_i hc
        simp only [Option.some.injEq] at h
        subst h
        obtain ⟨e1, e2⟩ := encA_take h0 h1
        exact ⟨by rw [e1, (take_eq_self e2).2 hc.1], hc.2.2⟩
      · cases h
  · cases h

theorem takeN_three (c : UInt8) (a b d : Nat) (post : List UInt8) (ha : a ≤ 9223372036854775807) (hb : b ≤ 9223372036854775807) (hd : d ≤ 9223372036854775807) :
    takeN 3 (c :: (encN [a, b, d] ++ post)) 1 = some ([a, b, d], 1 + (encN [a, b, d]).length) := by
  have h := takeN_enc [] 3 [a, b, d] [c] post rfl (by simp; omega)
  simpa using h
/-- P12.2: what is encoded is decoded. -/
theorem decB_enc {b : Bt} (hf : ∀ x ∈ b.sps, x.fits) (h : bOk b = true) : decB (encB b) = some b := by
  obtain ⟨hm, ha⟩ : bMay b = true ∧ b.sps.all mayB = true := by simpa [bOk] using h
  have hb := bMay_true.1 hm
  have hall := List.all_eq_true.1 ha
  have h1 := takeN_three 66 b.host.toNat b.first.toNat b.sps.length (encT (b.sps.map enc)) (by omega) (by omega) (by omega)
  have h2 := takeT_enc b.sps.length (b.sps.map enc) (66 :: encN [b.host.toNat, b.first.toNat, b.sps.length]) [] (by simp) (fun t ht => by
    obtain ⟨x, hx, rfl⟩ := List.mem_map.1 ht
    have := enc_len (hall x hx); omega)
  rw [List.append_nil, List.cons_append] at h2
  have h3 := takeT_takeS (fun x hx => ⟨hf x hx, hall x hx⟩) rfl h2
  unfold decB
  have h0 : hd (encB b) = 66 := rfl
  have he : encB b = 66 :: (encN [b.host.toNat, b.first.toNat, b.sps.length] ++ encT (b.sps.map enc)) := rfl
  rw [if_pos h0, he, h1]
  have hl : (66 :: encN [b.host.toNat, b.first.toNat, b.sps.length]).length = 1 + (encN [b.host.toNat, b.first.toNat, b.sps.length]).length := by simp; omega
  rw [hl] at h3
  have g0 : [b.host.toNat, b.first.toNat, b.sps.length].getD 0 0 = b.host.toNat := rfl
  have g1 : [b.host.toNat, b.first.toNat, b.sps.length].getD 1 0 = b.first.toNat := rfl
  have g2 : [b.host.toNat, b.first.toNat, b.sps.length].getD 2 0 = b.sps.length := rfl
  simp only [g0, g1, g2]
  rw [if_neg (by omega), h3]
  have e1 : ((b.host.toNat : Nat) : Int) = b.host := by omega
  have e2 : ((b.first.toNat : Nat) : Int) = b.first := by omega
  simp only [e1, e2]
  rw [if_pos ⟨by simp; omega, hm⟩]
theorem decA_enc {b : Ak} (h : aMay b = true) : decA (encA b) = some b := by
  have hb := aMay_true.1 h
  have h1 := takeN_three 65 b.host.toNat b.first.toNat (b.next - b.first).toNat [] (by omega) (by omega) (by omega)
  rw [List.append_nil] at h1
  unfold decA
  have h0 : hd (encA b) = 65 := rfl
  have he : encA b = 65 :: encN [b.host.toNat, b.first.toNat, (b.next - b.first).toNat] := rfl
  rw [if_pos h0, he, h1]
  have g0 : [b.host.toNat, b.first.toNat, (b.next - b.first).toNat].getD 0 0 = b.host.toNat := rfl
  have g1 : [b.host.toNat, b.first.toNat, (b.next - b.first).toNat].getD 1 0 = b.first.toNat := rfl
  have g2 : [b.host.toNat, b.first.toNat, (b.next - b.first).toNat].getD 2 0 = (b.next - b.first).toNat := rfl
  have e1 : ((b.host.toNat : Nat) : Int) = b.host := by omega
  have e2 : ((b.first.toNat : Nat) : Int) = b.first := by omega
  have e3 : ((b.first.toNat + (b.next - b.first).toNat : Nat) : Int) = b.next := by omega
  simp only [g0, g1, g2]
  rw [e1, e2, e3]
  rw [if_pos ⟨by simp; omega, by omega, h⟩]
/-- No bytes are of both kinds. -/
theorem hd_encB (b : Bt) : hd (encB b) = 66 := rfl
theorem hd_encA (b : Ak) : hd (encA b) = 65 := rfl
theorem decA_hd {l : List UInt8} (h : hd l ≠ 65) : decA l = none := by unfold decA; rw [if_neg h]
theorem decB_hd {l : List UInt8} (h : hd l ≠ 66) : decB l = none := by unfold decB; rw [if_neg h]

theorem encT_max {ts : List (List UInt8)} (h : ∀ t ∈ ts, t.length ≤ 90) : (encT ts).length ≤ 91 * ts.length := by
  induction ts with
  | nil => simp [encT]
  | cons t ts ih =>
    have one : (putN 90).length = 1 := by decide
    have h1 := putN_len_mono t.length 90 (h t (by simp))
    have h2 := h t (by simp)
    have h3 := ih (fun u hu => h u (by simp [hu]))
    simp only [encT, putT, List.flatMap_cons, List.length_append, List.length_cons] at *
    omega
theorem encB_len {b : Bt} (h : bOk b = true) : (encB b).length ≤ 800 := by
  obtain ⟨hm, ha⟩ : bMay b = true ∧ b.sps.all mayB = true := by simpa [bOk] using h
  have hb := bMay_true.1 hm
  have h1 := encT_max (ts := b.sps.map enc) (fun t ht => by
    obtain ⟨x, hx, rfl⟩ := List.mem_map.1 ht
    exact enc_len (List.all_eq_true.1 ha x hx))
  have h2 := encN_len [b.host.toNat, b.first.toNat, b.sps.length]
  rw [List.length_map] at h1
  unfold encB
  rw [List.length_cons, List.length_append]
  simp only [List.length_cons, List.length_nil] at h2
  omega

/-- What is cut off: a proper beginning is no batch's. -/
theorem gets_more {l m : List UInt8} {at_ : Int} {n next : Nat} (h : gets l at_ = some (n, next)) : gets (l ++ m) at_ = some (n, next) := by
  have hb := gets_bounds h
  have e : l ++ m = l.take at_.toNat ++ putN n ++ (l.drop next ++ m) := by
    have e1 : l = l.take at_.toNat ++ l.drop at_.toNat := (List.take_append_drop _ _).symm
    have e2 : l.drop at_.toNat = (l.drop at_.toNat).take (next - at_.toNat) ++ l.drop next := by
      have : (l.drop at_.toNat).drop (next - at_.toNat) = l.drop next := by rw [List.drop_drop, show at_.toNat + (next - at_.toNat) = next from by omega]
      rw [← this, List.take_append_drop]
    rw [hb.2.2.2.2.2]
    calc l ++ m = (l.take at_.toNat ++ l.drop at_.toNat) ++ m := by rw [← e1]
      _ = (l.take at_.toNat ++ ((l.drop at_.toNat).take (next - at_.toNat) ++ l.drop next)) ++ m := by rw [← e2]
      _ = _ := by simp only [List.append_assoc]
  have hl : (l.take at_.toNat).length = at_.toNat := by rw [List.length_take]; omega
  have hg := gets_put (l.take at_.toNat) (l.drop next ++ m) n hb.2.2.2.1
  rw [← e, hl] at hg
  have hn : (putN n).length = next - at_.toNat := by
    rw [hb.2.2.2.2.2, List.length_take, List.length_drop]; omega
  rw [show ((at_.toNat : Nat) : Int) = at_ from by omega, hn, show at_.toNat + (next - at_.toNat) = next from by omega] at hg
  exact hg
theorem getTs_more {l m : List UInt8} {at_ : Int} {t : List UInt8} {next : Nat} (h : getTs l at_ = some (t, next)) : getTs (l ++ m) at_ = some (t, next) := by
  unfold getTs at h ⊢
  cases hg : gets l at_ with
  | none => rw [hg] at h; cases h
  | some r =>
    obtain ⟨n, d⟩ := r
    rw [hg] at h
    rw [gets_more hg]
    simp only at h ⊢
    split at h
    · rename_i hr
      rw [if_pos (by rw [List.length_append]; omega)]
      simp only [Option.some.injEq, Prod.mk.injEq] at h ⊢
      refine ⟨?_, h.2⟩
      rw [← h.1, List.drop_append_of_le_length (by omega), List.take_append_of_le_length (by rw [List.length_drop]; omega)]
    · cases h
theorem takeN_more : ∀ {k : Nat} {l m : List UInt8} {a : Nat} {ns : List Nat} {b : Nat}, takeN k l a = some (ns, b) → takeN k (l ++ m) a = some (ns, b)
  | 0, l, m, a, ns, b, h => h
  | k + 1, l, m, a, ns, b, h => by
    simp only [takeN] at h ⊢
    split at h
    · cases h
    · rename_i ms c hm
      rw [takeN_more hm]
      split at h
      · cases h
      · rename_i n d hg
        simp only [gets_more hg]
        exact h
theorem takeS_more : ∀ {k : Nat} {l m : List UInt8} {a : Nat} {xs : List Sp} {b : Nat}, takeS k l a = some (xs, b) → takeS k (l ++ m) a = some (xs, b)
  | 0, l, m, a, ns, b, h => h
  | k + 1, l, m, a, ns, b, h => by
    simp only [takeS] at h ⊢
    split at h
    · cases h
    · rename_i ms c hm
      rw [takeS_more hm]
      split at h
      · cases h
      · rename_i n d hg
        simp only [getTs_more hg]
        exact h
theorem hd_more {l m : List UInt8} {n : Nat} (hn : 0 < n) (h : hd l = n) : hd (l ++ m) = n := by
  obtain ⟨c, r, rfl, hc⟩ := hd_cons hn h
  simpa [hd] using hc
/-- Of bytes with something behind them nothing is decoded. -/
theorem decB_more {l m : List UInt8} {b : Bt} (h : decB l = some b) (hm : m ≠ []) : decB (l ++ m) = none := by
  have hpos : 0 < m.length := List.length_pos_iff.2 hm
  unfold decB at h ⊢
  split at h
  · rename_i h0
    rw [if_pos (hd_more (by omega) h0)]
    cases h1 : takeN 3 l 1 with
    | none => simp [h1] at h
    | some r =>
      obtain ⟨ns, a⟩ := r
      rw [takeN_more h1]
      simp only [h1] at h ⊢
      split at h
      · cases h
      · rename_i h8
        rw [if_neg h8]
        cases h2 : takeS (ns.getD 2 0) l a with
        | none => simp only [h2] at h; cases h
        | some q =>
          obtain ⟨xs, c⟩ := q
          rw [takeS_more h2]
          simp only [h2] at h ⊢
          split at h
          · rename_i hc
            rw [if_neg (by rw [List.length_append]; omega)]
          · cases h
  · cases h
theorem decA_more {l m : List UInt8} {b : Ak} (h : decA l = some b) (hm : m ≠ []) : decA (l ++ m) = none := by
  have hpos : 0 < m.length := List.length_pos_iff.2 hm
  unfold decA at h ⊢
  split at h
  · rename_i h0
    rw [if_pos (hd_more (by omega) h0)]
    cases h1 : takeN 3 l 1 with
    | none => simp [h1] at h
    | some r =>
      obtain ⟨ns, a⟩ := r
      rw [takeN_more h1]
      simp only [h1] at h ⊢
      split at h
      · rename_i hc
        rw [if_neg (by rw [List.length_append]; omega)]
      · cases h
  · cases h
/-- Of what is cut off nothing is decoded. -/
theorem decB_cut {b : Bt} (hf : ∀ x ∈ b.sps, x.fits) (h : bOk b = true) (i : Nat) (hi : i < (encB b).length) : decB ((encB b).take i) = none := by
  cases hd : decB ((encB b).take i) with
  | none => rfl
  | some c =>
    have hm := decB_more hd (m := (encB b).drop i) (fun e => by have := congrArg List.length e; simp at this; omega)
    rw [List.take_append_drop, decB_enc hf h] at hm
    cases hm
theorem decA_cut {b : Ak} (h : aMay b = true) (i : Nat) (hi : i < (encA b).length) : decA ((encA b).take i) = none := by
  cases hd : decA ((encA b).take i) with
  | none => rfl
  | some c =>
    have hm := decA_more hd (m := (encA b).drop i) (fun e => by have := congrArg List.length e; simp at this; omega)
    rw [List.take_append_drop, decA_enc h] at hm
    cases hm
theorem encB_inj {b c : Bt} (hb : ∀ x ∈ b.sps, x.fits) (hc : ∀ x ∈ c.sps, x.fits) (h : bOk b = true) (k : bOk c = true) (e : encB b = encB c) : b = c := by
  have h1 := decB_enc hb h
  have h2 := decB_enc hc k
  rw [e, h2] at h1
  injection h1 with h1
  exact h1.symm
theorem encA_inj {b c : Ak} (h : aMay b = true) (k : aMay c = true) (e : encA b = encA c) : b = c := by
  have h1 := decA_enc h
  have h2 := decA_enc k
  rw [e, h2] at h1
  injection h1 with h1
  exact h1.symm

end Go.Proofs.Ytblgfhljaafmhaa.M
