/- Plain mathematics of layer 19: the document's answers by all cells, one by one; rows of keys rise as keys do. No Go here. -/
import Derived.Test.YtnhljlmelbiljaaGreatTbltM
import Derived.Test.YtnhljlmelbiljaaGreatZF
namespace Go.Proofs.YtnhljlmelbiljaaGreat
set_option linter.unusedVariables false
set_option linter.unusedSimpArgs false
open Go Go.RowKit

/-- One more cell of a key. -/
def M.upC (k : List UInt8) (acc : Option M.Cl) (c : M.Cl) : Option M.Cl := if c.key = k then M.up acc (some c) else acc
theorem M.upC_low (k : List UInt8) (b : M.Cl) : ∀ (L : List M.Cl), (∀ c, c ∈ L → c.key = k → c.seq ≤ b.seq) → L.foldl (M.upC k) (some b) = some b
  | [], _ => rfl
  | c :: t, h => by
    rw [List.foldl_cons]
    have e : M.upC k (some b) c = some b := by
      unfold M.upC
      by_cases hk : c.key = k
      · rw [if_pos hk]
        have := h c (by simp) hk
        simp only [M.up]
        rw [if_neg (by omega)]
      · rw [if_neg hk]
    rw [e]
    exact M.upC_low k b t (fun c hc => h c (List.mem_cons_of_mem _ hc))
theorem M.upC_row (k : List UInt8) : ∀ (L : List M.Cl) (acc : Option M.Cl), M.Stt L → L.foldl (M.upC k) acc = M.up acc (M.findL k L)
  | [], acc, _ => (M.up_none acc).symm
  | c :: t, acc, h => by
    obtain ⟨h1, h2⟩ := List.pairwise_cons.1 h
    rw [List.foldl_cons]
    by_cases hk : c.key = k
    · rw [M.find_cons_eq hk]
      have e : M.upC k acc c = M.up acc (some c) := by unfold M.upC; rw [if_pos hk]
      rw [e]
      obtain ⟨b, hb, hle⟩ : ∃ b, M.up acc (some c) = some b ∧ c.seq ≤ b.seq := by
        cases acc with
        | none => exact ⟨c, rfl, Int.le_refl _⟩
        | some a =>
          simp only [M.up]
          by_cases q : a.seq < c.seq
          · rw [if_pos q]; exact ⟨c, rfl, Int.le_refl _⟩
          · rw [if_neg q]; exact ⟨a, rfl, by omega⟩
      rw [hb]
      refine M.upC_low k b t (fun d hd he => ?_)
      have := (M.ahead_seq (hk.trans he.symm)).1.1 (h1 d hd)
      omega
    · rw [M.find_cons_ne hk]
      have e : M.upC k acc c = acc := by unfold M.upC; rw [if_neg hk]
      rw [e]
      exact M.upC_row k t acc h2
/-- A text into a rising list, once. -/
def M.putK (s : List UInt8) : List (List UInt8) → List (List UInt8)
  | [] => [s]
  | x :: l => if Op.bytesLess x s = true then x :: M.putK s l else if x = s then x :: l else s :: x :: l
abbrev M.PwS (l : List (List UInt8)) : Prop := l.Pairwise (fun x y => Op.bytesLess x y = true)
theorem M.putK_mem {s x : List UInt8} : ∀ {l : List (List UInt8)}, x ∈ M.putK s l ↔ x = s ∨ x ∈ l
  | [] => by simp [M.putK]
  | y :: l => by
    unfold M.putK
    by_cases h : Op.bytesLess y s = true
    · rw [if_pos h, List.mem_cons, M.putK_mem, List.mem_cons]
      constructor
      · rintro (q | q | q)
        · exact .inr (.inl q)
        · exact .inl q
        · exact .inr (.inr q)
      · rintro (q | q | q)
        · exact .inr (.inl q)
        · exact .inl q
        · exact .inr (.inr q)
    · rw [if_neg h]
      by_cases e : y = s
      · rw [if_pos e, List.mem_cons]
        constructor
        · exact .inr
        · rintro (q | q)
          · exact .inl (q.trans e.symm)
          · exact q
      · rw [if_neg e, List.mem_cons]
theorem M.putK_pw {s : List UInt8} : ∀ {l : List (List UInt8)}, M.PwS l → M.PwS (M.putK s l)
  | [], _ => by simp [M.putK]
  | y :: l, h => by
    obtain ⟨h1, h2⟩ := List.pairwise_cons.1 h
    unfold M.putK
    by_cases q : Op.bytesLess y s = true
    · rw [if_pos q]
      refine List.pairwise_cons.2 ⟨fun x hx => ?_, M.putK_pw h2⟩
      rcases M.putK_mem.1 hx with rfl | hx
      · exact q
      · exact h1 x hx
    · rw [if_neg q]
      by_cases e : y = s
      · rw [if_pos e]; exact h
      · rw [if_neg e]
        have hs : Op.bytesLess s y = true := by
          rcases M.not_less (by simpa using q : Op.bytesLess y s = false) with r | r
          · exact absurd r e
          · exact r
        refine List.pairwise_cons.2 ⟨fun x hx => ?_, h⟩
        rcases List.mem_cons.1 hx with rfl | hx
        · exact hs
        · exact M.less_trans _ _ _ hs (h1 x hx)
theorem M.putK_len (s : List UInt8) : ∀ (l : List (List UInt8)), (M.putK s l).length ≤ l.length + 1
  | [] => by simp [M.putK]
  | y :: l => by
    have := M.putK_len s l
    unfold M.putK
    split
    · simp only [List.length_cons]; omega
    · split <;> simp
/-- Where a text is put. -/
theorem M.putK_at {s : List UInt8} : ∀ {l : List (List UInt8)} {k : Nat}, k ≤ l.length → (∀ j, j < k → Op.bytesLess (l.getD j []) s = true) → (k < l.length → Op.bytesLess (l.getD k []) s = false) → M.putK s l = if k < l.length ∧ l.getD k [] = s then l else l.take k ++ s :: l.drop k
  | [], k, hk, _, _ => by
    have : k = 0 := by simpa using hk
    subst this
    simp [M.putK]
  | x :: l, 0, _, _, hf => by
    have h := hf (by simp)
    simp only [List.getD_cons_zero] at h
    unfold M.putK
    rw [if_neg (by rw [h]; simp)]
    by_cases e : x = s
    · rw [if_pos e, if_pos ⟨by simp, by simpa using e⟩]
    · rw [if_neg e, if_neg (fun q => e (by simpa using q.2))]
      simp
  | x :: l, k + 1, hk, hb, hf => by
    have h0 := hb 0 (by omega)
    simp only [List.getD_cons_zero] at h0
    unfold M.putK
    rw [if_pos h0, M.putK_at (k := k) (by simpa using hk) (fun j hj => by have := hb (j + 1) (by omega); simpa using this) (fun q => by have := hf (by simpa using q); simpa using this)]
    by_cases c : k < l.length ∧ l.getD k [] = s
    · rw [if_pos c, if_pos ⟨by simpa using c.1, by simpa using c.2⟩]
    · rw [if_neg c, if_neg (fun q => c ⟨by simpa using q.1, by simpa using q.2⟩)]
      simp
def M.keysP (acc : List (List UInt8)) (L : List M.Cl) : List (List UInt8) := L.foldl (fun a c => M.putK c.key a) acc
/-- All keys, rising, each once. -/
def M.keysR (R : List (List M.Cl)) : List (List UInt8) := R.foldl M.keysP []
theorem M.keysP_mem {x : List UInt8} : ∀ (L : List M.Cl) (acc : List (List UInt8)), x ∈ M.keysP acc L ↔ x ∈ acc ∨ ∃ c, c ∈ L ∧ c.key = x
  | [], acc => by simp [M.keysP]
  | c :: t, acc => by
    show x ∈ M.keysP (M.putK c.key acc) t ↔ _
    rw [M.keysP_mem t, M.putK_mem]
    constructor
    · rintro ((q | q) | ⟨d, hd, e⟩)
      · exact .inr ⟨c, by simp, q.symm⟩
      · exact .inl q
      · exact .inr ⟨d, List.mem_cons_of_mem _ hd, e⟩
    · rintro (q | ⟨d, hd, e⟩)
      · exact .inl (.inr q)
      · rcases List.mem_cons.1 hd with rfl | hd
        · exact .inl (.inl e.symm)
        · exact .inr ⟨d, hd, e⟩
theorem M.keysP_pw : ∀ (L : List M.Cl) {acc : List (List UInt8)}, M.PwS acc → M.PwS (M.keysP acc L)
  | [], _, h => h
  | c :: t, _, h => M.keysP_pw t (M.putK_pw h)
theorem M.keysP_len : ∀ (L : List M.Cl) (acc : List (List UInt8)), (M.keysP acc L).length ≤ acc.length + L.length
  | [], acc => by simp [M.keysP]
  | c :: t, acc => by
    have h1 := M.keysP_len t (M.putK c.key acc)
    have h2 := M.putK_len c.key acc
    show (M.keysP (M.putK c.key acc) t).length ≤ _
    simp only [List.length_cons]
    omega
theorem M.keysP_snoc (acc : List (List UInt8)) {L : List M.Cl} {i : Nat} (h : i < L.length) : M.keysP acc (L.take (i + 1)) = M.putK (L.getD i M.cl0).key (M.keysP acc (L.take i)) := by
  rw [takeC_snoc h, M.keysP, List.foldl_append]
  rfl
theorem M.keysR_snoc (R : List (List M.Cl)) (L : List M.Cl) : M.keysR (R ++ [L]) = M.keysP (M.keysR R) L := by
  rw [M.keysR, List.foldl_append]
  rfl
theorem M.keysR_memA {x : List UInt8} : ∀ (R : List (List M.Cl)) (acc : List (List UInt8)), x ∈ R.foldl M.keysP acc ↔ x ∈ acc ∨ ∃ L c, L ∈ R ∧ c ∈ L ∧ c.key = x
  | [], acc => by simp
  | L :: R, acc => by
    rw [List.foldl_cons, M.keysR_memA R, M.keysP_mem]
    constructor
    · rintro ((q | ⟨c, hc, e⟩) | ⟨K, c, hK, hc, e⟩)
      · exact .inl q
      · exact .inr ⟨L, c, by simp, hc, e⟩
      · exact .inr ⟨K, c, List.mem_cons_of_mem _ hK, hc, e⟩
    · rintro (q | ⟨K, c, hK, hc, e⟩)
      · exact .inl (.inl q)
      · rcases List.mem_cons.1 hK with rfl | hK
        · exact .inl (.inr ⟨c, hc, e⟩)
        · exact .inr ⟨K, c, hK, hc, e⟩
theorem M.keysR_pwA : ∀ (R : List (List M.Cl)) {acc : List (List UInt8)}, M.PwS acc → M.PwS (R.foldl M.keysP acc)
  | [], _, h => h
  | L :: R, _, h => M.keysR_pwA R (M.keysP_pw L h)
theorem M.keysR_lenA : ∀ (R : List (List M.Cl)) (acc : List (List UInt8)), (R.foldl M.keysP acc).length ≤ acc.length + (R.map List.length).sum
  | [], acc => by simp
  | L :: R, acc => by
    have h1 := M.keysR_lenA R (M.keysP acc L)
    have h2 := M.keysP_len L acc
    rw [List.foldl_cons, List.map_cons, List.sum_cons]
    omega
theorem M.bestR_in {k : List UInt8} {c : M.Cl} : ∀ (R : List (List M.Cl)), M.bestR k R = some c → ∃ L, L ∈ R ∧ c ∈ L ∧ c.key = k
  | [], h => by cases h
  | L :: R, h => by
    unfold M.bestR at h
    have key : ∀ a b : Option M.Cl, M.up a b = some c → a = some c ∨ b = some c := fun a b h => by
      cases a with
      | none => exact .inr h
      | some x => cases b with
        | none => exact .inl h
        | some y =>
          simp only [M.up] at h
          split at h
          · exact .inr h
          · exact .inl h
    rcases key _ _ h with q | q
    · exact ⟨L, by simp, M.find_some19 q⟩
    · obtain ⟨K, hK, hc⟩ := M.bestR_in R q
      exact ⟨K, List.mem_cons_of_mem _ hK, hc⟩
/-- What the document tells of a stretch. -/
def M.refStep (f t : List UInt8) (R : List (List M.Cl)) (a b k : List UInt8) : List M.Cl := match M.getT f t R k with
  | some c => if M.inK a b k = true then [c] else []
  | none => []
def M.refRange (f t : List UInt8) (R : List (List M.Cl)) (a b : List UInt8) : List M.Cl := (M.keysR R).flatMap (M.refStep f t R a b)
theorem M.refStep_mem {f t : List UInt8} {R : List (List M.Cl)} {a b k : List UInt8} {x : M.Cl} : x ∈ M.refStep f t R a b k ↔ M.getT f t R k = some x ∧ M.inK a b k = true := by
  unfold M.refStep
  cases h : M.getT f t R k with
  | none => simp
  | some c =>
    show x ∈ (if M.inK a b k = true then [c] else []) ↔ _
    by_cases q : M.inK a b k = true
    · rw [if_pos q]
      constructor
      · intro hx
        have := List.mem_singleton.1 hx
        exact ⟨by rw [this], q⟩
      · rintro ⟨e, _⟩
        injection e with e
        rw [e]; simp
    · simp [q]
theorem M.getT_key {f t : List UInt8} {R : List (List M.Cl)} {k : List UInt8} {x : M.Cl} (h : M.getT f t R k = some x) : x.key = k ∧ ∃ L, L ∈ R ∧ x ∈ L := by
  unfold M.getT at h
  split at h
  · obtain ⟨L, h1, h2, h3⟩ := M.bestR_in R h
    exact ⟨h3, L, h1, h2⟩
  · cases h
theorem M.refRange_eq (f t : List UInt8) {R : List (List M.Cl)} (hp : M.PW R) (a b : List UInt8) : M.refRange f t R a b = M.rangeT f t R a b := by
  refine M.strict_mem (M.less_strict ?_) (M.less_strict (M.rangeT_pwk f t hp a b)) (fun x => ?_)
  · refine List.pairwise_flatMap.2 ⟨fun k hk => ?_, ?_⟩
    · unfold M.refStep
      split
      · split <;> simp
      · simp
    · refine (M.keysR_pwA R List.Pairwise.nil : M.PwS (M.keysR R)).imp ?_
      intro k1 k2 hk x hx y hy
      rw [(M.getT_key (M.refStep_mem.1 hx).1).1, (M.getT_key (M.refStep_mem.1 hy).1).1]
      exact hk
  · rw [← M.pwk_find (M.rangeT_pwk f t hp a b), M.rangeT_find f t hp]
    constructor
    · intro hx
      obtain ⟨k, hk, hx⟩ := List.mem_flatMap.1 hx
      obtain ⟨h1, h2⟩ := M.refStep_mem.1 hx
      obtain ⟨e, _⟩ := M.getT_key h1
      subst e
      rw [h2, Bool.and_true]
      exact h1
    · intro hx
      by_cases q : (M.inK f t x.key && M.inK a b x.key) = true
      · rw [if_pos q] at hx
        simp only [Bool.and_eq_true] at q
        obtain ⟨L, hL, hc, _⟩ := M.bestR_in R hx
        refine List.mem_flatMap.2 ⟨x.key, ?_, M.refStep_mem.2 ⟨?_, q.2⟩⟩
        · exact (M.keysR_memA R []).2 (.inr ⟨L, x, hL, hc, rfl⟩)
        · unfold M.getT
          rw [if_pos q.1]
          exact hx
      · rw [if_neg q] at hx; cases hx
/-! Rows of keys. -/
end Go.Proofs.YtnhljlmelbiljaaGreat
