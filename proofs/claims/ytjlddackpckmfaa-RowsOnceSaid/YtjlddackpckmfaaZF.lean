/- Texts of lower layers, as one. -/
import Derived.Test.YtjlddackpckmfaaKeysO
import Derived.Test.YtjlddackpckmfaaZC
import Derived.Test.YtjlddackpckmfaaZE
import Derived.Deep.RegionLaw
import Derived.Maps.AppendAt
import Derived.Maps.OwnSet
/- Plain mathematics of layer 21: spans as cells, and which spans are taken. No Go here. -/
namespace Go.Proofs.Ytjlddackpckmfaa.M
set_option linter.unusedVariables false

/-- A cell. -/
structure Cl where
  key : List UInt8
  seq : Int
  val : List UInt8
deriving DecidableEq
theorem Cl.ext' {x y : Cl} (h1 : x.key = y.key) (h2 : x.seq = y.seq) (h3 : x.val = y.val) : x = y := by
  cases x; cases y; simp_all
/-- P21.1: has what began at s expired at a tick? -/
def pastB (s n : Int) : Bool := decide (s ≤ n) && decide (60 ≤ n - s)
theorem pastB_true {s n : Int} : pastB s n = true ↔ s ≤ n ∧ 60 ≤ n - s := by simp [pastB]
/-- The key of a span's cell; whether two spans are of one trace and ID. -/
def keyB (x : Sp) : List UInt8 := ofK x.trace x.id
def same (x y : Sp) : Bool := decide (x.trace = y.trace) && decide (x.id = y.id)
def cell1 (x : Sp) : Cl := ⟨keyB x, 0, enc x⟩
def cell2 (x : Sp) : Cl := ⟨idxK x, 0, []⟩
def cls2 (x : Sp) : List Cl := [cell1 x, cell2 x]
def spanC (c : Cl) : Option Sp := match dec c.val with
  | none => none
  | some x => if keyB x = c.key then some x else none
def dropB (c : Cl) (n : Int) : Bool := match spanC c with
  | some x => pastB x.start n
  | none => match parse c.key with
    | none => false
    | some p => decide (p.kind = 120) && pastB p.start n

theorem may_id {x : Sp} (h : mayB x = true) : idB x.trace = true ∧ idB x.id = true := by
  have := mayB_parts h
  exact ⟨idB_true.2 this.1, idB_true.2 this.2.1⟩
theorem may_nat {x : Sp} (h : mayB x = true) : ((x.trace.toNat : Nat) : Int) = x.trace ∧ ((x.id.toNat : Nat) : Int) = x.id ∧ ((x.start.toNat : Nat) : Int) = x.start := by
  have := mayB_parts h
  omega
theorem okOf_may {x : Sp} (h : mayB x = true) : okOf x.trace x.id = true := by
  have := may_id h
  simp [okOf, this.1, this.2]
theorem keyB_may {x : Sp} (h : mayB x = true) : keyB x = spanK x.trace.toNat x.id.toNat := by
  rw [keyB, ofK, if_pos (okOf_may h)]
theorem keyB_len (x : Sp) : (keyB x).length ≤ 17 := by
  unfold keyB ofK
  split
  · have h1 := bigN_length x.trace.toNat
    have h2 := bigN_length x.id.toNat
    simp [spanK]; omega
  · simp
theorem idxK_may {x : Sp} (h : mayB x = true) : idxK x = indexK x.svc x.host x.start.toNat x.trace.toNat x.id.toNat := by
  rw [idxK, if_pos h]
theorem parse_key {x : Sp} (h : mayB x = true) : parse (keyB x) = some ⟨115, x.trace.toNat, x.id.toNat, 0, [], []⟩ := by
  have h1 := may_id h
  have h2 := may_nat h
  rw [keyB_may h]
  exact parse_span _ _ (by rw [h2.1]; exact h1.1) (by rw [h2.2.1]; exact h1.2)
theorem parse_idx {x : Sp} (h : mayB x = true) : parse (idxK x) = some ⟨120, x.trace.toNat, x.id.toNat, x.start.toNat, x.svc, x.host⟩ := by
  have h1 := may_id h
  have h2 := may_nat h
  have h3 := mayB_parts h
  rw [idxK_may h]
  exact parse_index _ _ h3.2.2.2.1 h3.2.2.2.2.1 _ _ _ (by omega) (by rw [h2.1]; exact h1.1) (by rw [h2.2.1]; exact h1.2)
theorem keyB_inj {x y : Sp} (h : mayB x = true) (k : mayB y = true) : keyB x = keyB y ↔ same x y = true := by
  constructor
  · intro e
    have h1 := parse_key h
    rw [e, parse_key k] at h1
    simp only [Option.some.injEq, Pt.mk.injEq] at h1
    have h2 := may_nat h
    have h3 := may_nat k
    simp only [same, Bool.and_eq_true, decide_eq_true_eq]
    omega
  · intro e
    simp only [same, Bool.and_eq_true, decide_eq_true_eq] at e
    rw [keyB, keyB, e.1, e.2]
theorem idxK_inj {x y : Sp} (h : mayB x = true) (k : mayB y = true) : idxK x = idxK y ↔ x.trace = y.trace ∧ x.id = y.id ∧ x.svc = y.svc ∧ x.host = y.host ∧ x.start = y.start := by
  constructor
  · intro e
    have h1 := parse_idx h
    rw [e, parse_idx k] at h1
    simp only [Option.some.injEq, Pt.mk.injEq, true_and] at h1
    have h2 := may_nat h
    have h3 := may_nat k
    exact ⟨by omega, by omega, h1.2.2.2.1.symm, h1.2.2.2.2.symm, by omega⟩
  · rintro ⟨e1, e2, e3, e4, e5⟩
    rw [idxK_may h, idxK_may k, e1, e2, e3, e4, e5]
theorem key_idx {x y : Sp} (h : mayB x = true) (k : mayB y = true) : keyB x ≠ idxK y := by
  intro e
  have h1 := parse_key h
  rw [e, parse_idx k] at h1
  simp only [Option.some.injEq, Pt.mk.injEq] at h1
  omega
theorem dec_nil : dec [] = none := by rfl
theorem spanC_cell1 {x : Sp} (hx : x.fits) (h : mayB x = true) : spanC (cell1 x) = some x := by
  simp [spanC, cell1, dec_enc hx h]
theorem spanC_cell2 (x : Sp) : spanC (cell2 x) = none := by
  simp [spanC, cell2, dec_nil]
theorem dropB_cell1 {x : Sp} (hx : x.fits) (h : mayB x = true) (n : Int) : dropB (cell1 x) n = pastB x.start n := by
  rw [dropB, spanC_cell1 hx h]
theorem dropB_cell2 {x : Sp} (h : mayB x = true) (n : Int) : dropB (cell2 x) n = pastB x.start n := by
  rw [dropB, spanC_cell2]
  simp only [cell2, parse_idx h, (may_nat h).2.2]
  simp
theorem spanC_some {c : Cl} {x : Sp} (h : spanC c = some x) : mayB x = true ∧ c.key = keyB x ∧ c.val = enc x := by
  unfold spanC at h
  split at h
  · cases h
  · rename_i y hy
    split at h
    · rename_i hk
      cases h
      have := enc_dec hy
      exact ⟨this.2, hk.symm, this.1.symm⟩
    · cases h
theorem dropB_span {c : Cl} {x : Sp} (h : spanC c = some x) (n : Int) : dropB c n = pastB x.start n := by
  rw [dropB, h]

theorem snocI {α : Type} {P : List α → Prop} (h0 : P []) (h1 : ∀ l x, P l → P (l ++ [x])) (l : List α) : P l := by
  have h : ∀ k : List α, P k.reverse := fun k => by
    induction k with
    | nil => exact h0
    | cons x k ih => rw [List.reverse_cons]; exact h1 _ _ ih
  have := h l.reverse
  rwa [List.reverse_reverse] at this
/-- Is a span taken, behind those that are, by a get? -/
def okT (get : List UInt8 → Option Cl) (n : Int) (T : List Sp) (x : Sp) : Bool :=
  mayB x && !pastB x.start n && !(T.any fun y => decide (keyB y = keyB x)) && (match get (keyB x) with
    | none => true
    | some c => dropB c n)
def tkS (get : List UInt8 → Option Cl) (n : Int) (T : List Sp) (x : Sp) : List Sp := if okT get n T x then T ++ [x] else T
def tk (get : List UInt8 → Option Cl) (n : Int) (L : List Sp) : List Sp := L.foldl (tkS get n) []
theorem tk_snoc (get : List UInt8 → Option Cl) (n : Int) (L : List Sp) (x : Sp) : tk get n (L ++ [x]) = tkS get n (tk get n L) x := by simp [tk]
/-- The same by the document: by those that are there. -/
def okR (there : List Sp) (n : Int) (T : List Sp) (x : Sp) : Bool :=
  mayB x && !pastB x.start n && !(there.any fun y => same y x && !pastB y.start n) && !(T.any fun y => same y x)
def tkRS (there : List Sp) (n : Int) (T : List Sp) (x : Sp) : List Sp := if okR there n T x then T ++ [x] else T
def tkR (there : List Sp) (n : Int) (L : List Sp) : List Sp := L.foldl (tkRS there n) []
theorem tkR_snoc (there : List Sp) (n : Int) (L : List Sp) (x : Sp) : tkR there n (L ++ [x]) = tkRS there n (tkR there n L) x := by simp [tkR]
theorem tk_mem {get : List UInt8 → Option Cl} {n : Int} {L : List Sp} {x : Sp} (h : x ∈ tk get n L) : x ∈ L ∧ mayB x = true ∧ pastB x.start n = false := by
  induction L using snocI with
  | h0 => simp [tk] at h
  | h1 L y ih =>
    rw [tk_snoc, tkS] at h
    split at h
    · rename_i hok
      rcases List.mem_append.1 h with h | h
      · have := ih h
        exact ⟨List.mem_append.2 (.inl this.1), this.2⟩
      · obtain rfl : x = y := by simpa using h
        simp only [okT, Bool.and_eq_true, Bool.not_eq_true'] at hok
        exact ⟨by simp, hok.1.1.1, hok.1.1.2⟩
    · have := ih h
      exact ⟨List.mem_append.2 (.inl this.1), this.2⟩
theorem tk_len (get : List UInt8 → Option Cl) (n : Int) (L : List Sp) : (tk get n L).length ≤ L.length := by
  induction L using snocI with
  | h0 => simp [tk]
  | h1 L y ih =>
    rw [tk_snoc, tkS]
    split <;> simp <;> omega
theorem tkR_len (there : List Sp) (n : Int) (L : List Sp) : (tkR there n L).length ≤ L.length := by
  induction L using snocI with
  | h0 => simp [tkR]
  | h1 L y ih =>
    rw [tkR_snoc, tkRS]
    split <;> simp <;> omega

/-- The last cell of a key. -/
def getL (cs : List Cl) (k : List UInt8) : Option Cl := cs.reverse.find? (fun c => decide (c.key = k))
theorem getL_some {cs : List Cl} {k : List UInt8} {c : Cl} (h : getL cs k = some c) : c ∈ cs ∧ c.key = k := by
  have h1 := List.mem_of_find?_eq_some h
  have h2 := List.find?_some h
  exact ⟨by simpa using h1, by simpa using h2⟩
theorem getL_at {cs : List Cl} {k : List UInt8} {i : Nat} (hi : i < cs.length) (h : cs[i].key = k) (hn : ∀ j (hj : j < cs.length), i < j → cs[j].key ≠ k) : getL cs k = some cs[i] := by
  induction cs using snocI with
  | h0 => simp at hi
  | h1 cs c ih =>
    by_cases e : i = cs.length
    · subst e
      simp only [List.getElem_append_right (Nat.le_refl _), Nat.sub_self, List.getElem_cons_zero] at h ⊢
      simp [getL, h]
    · have hi' : i < cs.length := by simp at hi; omega
      have hl := hn cs.length (by simp) (by omega)
      simp only [List.getElem_append_right (Nat.le_refl _), Nat.sub_self, List.getElem_cons_zero] at hl
      have := ih hi' (by rw [List.getElem_append_left hi'] at h; exact h) (fun j hj hij => by
        have := hn j (by simp; omega) hij
        rwa [List.getElem_append_left hj] at this)
      rw [List.getElem_append_left hi', ← this]
      simp [getL, hl]
theorem getL_none {cs : List Cl} {k : List UInt8} (h : ∀ j (hj : j < cs.length), cs[j].key ≠ k) : getL cs k = none := by
  rw [getL, List.find?_eq_none]
  intro c hc
  obtain ⟨j, hj, rfl⟩ := List.mem_iff_getElem.1 (by simpa using hc : c ∈ cs)
  simpa using h j hj
/-- The cells of those of spans that may be. -/
def shelv (L : List Sp) : List Cl := L.flatMap fun x => if mayB x then cls2 x else []
theorem shelv_snoc (L : List Sp) (x : Sp) : shelv (L ++ [x]) = shelv L ++ (if mayB x then cls2 x else []) := by simp [shelv]
theorem shelv_len (L : List Sp) : (shelv L).length ≤ 2 * L.length := by
  induction L using snocI with
  | h0 => simp [shelv]
  | h1 L y ih =>
    rw [shelv_snoc]
    split <;> simp [cls2] <;> omega
theorem shelv_mem {L : List Sp} {c : Cl} (h : c ∈ shelv L) : ∃ x ∈ L, mayB x = true ∧ (c = cell1 x ∨ c = cell2 x) := by
  obtain ⟨x, hx, hc⟩ := List.mem_flatMap.1 h
  split at hc
  · rename_i hm
    exact ⟨x, hx, hm, by simpa [cls2] using hc⟩
  · simp at hc
/-- Of each trace and ID the last span that cells have. -/
def lastF (cs : List Cl) (c : Cl) : Option Sp := match spanC c with
  | none => none
  | some x => if getL cs c.key = some c then some x else none
def lastL (cs : List Cl) : List Sp := cs.filterMap (lastF cs)
theorem lastL_mem {cs : List Cl} {x : Sp} : x ∈ lastL cs ↔ ∃ c ∈ cs, spanC c = some x ∧ getL cs c.key = some c := by
  rw [lastL, List.mem_filterMap]
  constructor
  · rintro ⟨c, hc, h⟩
    unfold lastF at h
    split at h
    · cases h
    · rename_i y hy
      split at h
      · cases h; exact ⟨c, hc, hy, by assumption⟩
      · cases h
  · rintro ⟨c, hc, h1, h2⟩
    exact ⟨c, hc, by simp [lastF, h1, h2]⟩
/-- What the shelf says of a key is what the last spans say. -/
theorem shelf_last {L : List Sp} (hf : ∀ x ∈ L, x.fits) {x : Sp} (hm : mayB x = true) (n : Int) :
    (match getL (shelv L) (keyB x) with
      | none => true
      | some c => dropB c n) = !((lastL (shelv L)).any fun y => same y x && !pastB y.start n) := by
  rw [Bool.eq_iff_iff, Bool.not_eq_true', ← Bool.not_eq_true, List.any_eq_true]
  constructor
  · intro h
    rintro ⟨y, hy, hk⟩
    obtain ⟨c, hc, h1, h2⟩ := lastL_mem.1 hy
    obtain ⟨h3, h4, h5⟩ := spanC_some h1
    simp only [Bool.and_eq_true, Bool.not_eq_true'] at hk
    have hkey : keyB y = keyB x := (keyB_inj h3 hm).2 hk.1
    rw [h4, hkey] at h2
    rw [h2] at h
    simp only [dropB_span h1, hk.2] at h
    cases h
  · intro h
    cases hg : getL (shelv L) (keyB x) with
    | none => rfl
    | some c =>
      have hc := getL_some hg
      obtain ⟨y, hy, hmy, he | he⟩ := shelv_mem hc.1
      · subst he
        have h1 := spanC_cell1 (hf y hy) hmy
        have hsame : same y x = true := (keyB_inj hmy hm).1 hc.2
        show dropB (cell1 y) n = true
        rw [dropB_span h1]
        cases hp : pastB y.start n with
        | true => rfl
        | false => exact absurd ⟨y, lastL_mem.2 ⟨_, hc.1, h1, by rw [hc.2]; exact hg⟩, by simp [hsame, hp]⟩ h
      · subst he
        exact absurd hc.2.symm (key_idx hm hmy)
theorem any_congr' {α : Type} {l : List α} {p q : α → Bool} (h : ∀ x ∈ l, p x = q x) : l.any p = l.any q := by
  induction l with
  | nil => rfl
  | cons a l ih => simp only [List.any_cons, h a (by simp), ih (fun x hx => h x (by simp [hx]))]
theorem tk_tkR {L : List Sp} (hf : ∀ x ∈ L, x.fits) (n : Int) (K : List Sp) : tk (getL (shelv L)) n K = tkR (lastL (shelv L)) n K := by
  induction K using snocI with
  | h0 => rfl
  | h1 K x ih =>
    rw [tk_snoc, tkR_snoc, ← ih, tkS, tkRS]
    have : okT (getL (shelv L)) n (tk (getL (shelv L)) n K) x = okR (lastL (shelv L)) n (tk (getL (shelv L)) n K) x := by
      cases hm : mayB x with
      | false => simp [okT, okR, hm]
      | true =>
        unfold okT okR
        rw [shelf_last hf hm n, any_congr' (p := fun y => decide (keyB y = keyB x)) (q := fun y => same y x) (fun y hy => by
          have := (tk_mem hy).2.1
          rw [Bool.eq_iff_iff, decide_eq_true_eq]
          exact keyB_inj this hm)]
        simp only [Bool.and_assoc, Bool.and_comm (!List.any _ fun y => same y x)]
    rw [this]
/-- The spans of cells that have not expired. -/
def liveF (n : Int) (c : Cl) : Option Sp := match spanC c with
  | none => none
  | some x => if pastB x.start n then none else some x
def live (cs : List Cl) (n : Int) : List Sp := cs.filterMap (liveF n)
theorem live_snoc (cs : List Cl) (c : Cl) (n : Int) : live (cs ++ [c]) n = live cs n ++ (liveF n c).toList := by
  cases h : liveF n c <;> simp [live, h]
theorem live_cls {T : List Sp} {n : Int} (h : ∀ x ∈ T, x.fits ∧ mayB x = true ∧ pastB x.start n = false) : live (T.flatMap cls2) n = T := by
  induction T with
  | nil => rfl
  | cons x T ih =>
    obtain ⟨h1, h2, h3⟩ := h x (by simp)
    have e1 : liveF n (cell1 x) = some x := by simp [liveF, spanC_cell1 h1 h2, h3]
    have e2 : liveF n (cell2 x) = none := by simp [liveF, spanC_cell2]
    have := ih (fun y hy => h y (by simp [hy]))
    simp only [live] at this ⊢
    simp [cls2, e1, e2, this]

end Go.Proofs.Ytjlddackpckmfaa.M

/- Rows of cells that lie in memory: what came in, and what the call itself makes. -/
namespace Go.Proofs.Ytjlddackpckmfaa
set_option linter.unusedVariables false
open Go Go.RowKit

/-- A cell's cells; those of many, one behind the other. -/
abbrev clA (c : M.Cl) : Array Value := #[.string (S c.key), .int .i64 c.seq, .string (S c.val)]
def clL (c : M.Cl) : List Value := [.string (S c.key), .int .i64 c.seq, .string (S c.val)]
def cls (L : List M.Cl) : List Value := L.flatMap clL
def M.cl0 : M.Cl := ⟨[], 0, []⟩
theorem cls_append (a b : List M.Cl) : cls (a ++ b) = cls a ++ cls b := by simp [cls]
theorem cls_one (c : M.Cl) : cls [c] = clL c := by simp [cls]
theorem cls_length (L : List M.Cl) : (cls L).length = L.length * 3 := by
  induction L with
  | nil => rfl
  | cons m t ih => simp only [cls, List.flatMap_cons, List.length_append, List.length_cons] at *; rw [ih]; simp [clL]; omega
theorem cls_get (L : List M.Cl) (j i : Nat) (hj : j < L.length) (hi : i < 3) : (cls L)[j * 3 + i]? = (clL (L.getD j M.cl0))[i]? := by
  induction L generalizing j with
  | nil => simp at hj
  | cons m t ih =>
    rw [show cls (m :: t) = clL m ++ cls t from by simp [cls]]
    cases j with
    | zero => rw [List.getElem?_append_left (by simp [clL]; omega)]; simp
    | succ j =>
      rw [List.getElem?_append_right (by simp [clL]; omega), show (j + 1) * 3 + i - (clL m).length = j * 3 + i from by simp [clL]; omega, ih j (by simpa using hj)]
      simp
theorem clL_oneC (c : M.Cl) : ∀ u ∈ clL c, u.oneCell' = true := by simp [clL, Value.oneCell']
theorem cls_oneC (L : List M.Cl) : ∀ u ∈ cls L, u.oneCell' = true := by
  intro u hu
  obtain ⟨x, _, hx⟩ := List.mem_flatMap.1 hu
  exact clL_oneC x u hx
theorem clA_one (c : M.Cl) : (clA c).all (·.oneCell') = true := by simp [clA, Value.oneCell']
theorem infoCl : (Try.prog.info? 25).map (fun i => (i.zero.map (fun z => z.cells.size), i.size, i.bytes)) = some (some 3, 3, 40) := by kernel_rfl
theorem infoCl_parts : ∃ (i0 : TypeInfo) (z : Value), Try.prog.info? 25 = some i0 ∧ i0.zero = some z ∧ i0.size = 3 ∧ i0.bytes = 40 ∧ z.cells.size = 3 := by
  have h := infoCl
  cases hi : Try.prog.info? 25 with
  | none => rw [hi] at h; cases h
  | some i0 =>
    rw [hi] at h
    cases hz : i0.zero with
    | none => simp [hz] at h
    | some z =>
      simp [hz] at h
      exact ⟨i0, z, rfl, hz, h.2.1, h.2.2, h.1⟩

/-- A cell at a place of a block; a slice of cells, whose cells are known. -/
def ClOff (c : M.Cl) (w : World) (g o : Nat) : Prop := w.cell? ⟨g, o, none⟩ = some (.string (S c.key)) ∧ w.cell? ⟨g, o + 1, none⟩ = some (.int .i64 c.seq) ∧ w.cell? ⟨g, o + 2, none⟩ = some (.string (S c.val))
theorem ClOff.below {x : M.Cl} {w w' : World} {g o : Nat} (h : ClOff x w g o) (hb : Below w.heap.size w w') : ClOff x w' g o := by
  have k := fun {a v} (h : w.cell? a = some v) => (hb.cell (p := a) (block_lt_of_cell h)).trans h
  obtain ⟨h0, h1, h2⟩ := h
  exact ⟨k h0, k h1, k h2⟩
def ClsAt (w : World) (ao : Option Addr) (L : List M.Cl) : Prop := L ≠ [] → ∃ g off, ao = some ⟨g, off, none⟩ ∧ ∀ j, j < L.length → ClOff (L.getD j M.cl0) w g (off + j * 3)
theorem ClsAt.below {w w' : World} {ao : Option Addr} {L : List M.Cl} (h : ClsAt w ao L) (hb : Below w.heap.size w w') : ClsAt w' ao L := fun hn => by
  obtain ⟨g, off, e, hc⟩ := h hn
  exact ⟨g, off, e, fun j hj => (hc j hj).below hb⟩
theorem ClsAt.off {w : World} {ao : Option Addr} {L : List M.Cl} (h : ClsAt w ao L) (j : Nat) (hj : j < L.length) : ∃ g off, ao = some ⟨g, off, none⟩ ∧ ClOff (L.getD j M.cl0) w g (off + j * 3) := by
  obtain ⟨g, off, e, hc⟩ := h (fun h => by rw [h] at hj; simp at hj)
  exact ⟨g, off, e, hc j hj⟩
theorem ClsAt.same {w w' : World} {ao : Option Addr} {L : List M.Cl} (h : ClsAt w ao L) (he : w'.heap = w.heap) : ClsAt w' ao L := by
  have e : ∀ a, w'.cell? a = w.cell? a := fun a => by unfold World.cell?; rw [he]
  intro hn
  obtain ⟨g, off, e1, hc⟩ := h hn
  refine ⟨g, off, e1, fun j hj => ?_⟩
  have := hc j hj
  unfold ClOff at *
  simp only [e]
  exact this
theorem clsAt_nil (w : World) (ao : Option Addr) : ClsAt w ao [] := fun h => absurd rfl h
theorem clOff_get {x : M.Cl} {w : World} {g o : Nat} (h : ClOff x w g o) (i : Nat) (u : Value) (hu : (clL x)[i]? = some u) : w.cell? ⟨g, o + i, none⟩ = some u := by
  obtain ⟨h0, h1, h2⟩ := h
  match i with
  | 0 => simp [clL] at hu; subst hu; exact h0
  | 1 => simp [clL] at hu; subst hu; exact h1
  | 2 => simp [clL] at hu; subst hu; exact h2
  | i + 3 => simp [clL] at hu
theorem clsAt_get {w : World} {g o : Nat} {L : List M.Cl} (h : ∀ j, j < L.length → ClOff (L.getD j M.cl0) w g (o + j * 3)) (j : Nat) (u : Value) (hu : (cls L)[j]? = some u) : w.cell? ⟨g, o + j, none⟩ = some u := by
  have hj : j < L.length * 3 := by
    rw [← cls_length]
    exact (List.getElem?_eq_some_iff.1 hu).1
  have e : j = j / 3 * 3 + j % 3 := by omega
  have h1 := h (j / 3) (by omega)
  rw [e, cls_get L (j / 3) (j % 3) (by omega) (by omega)] at hu
  have h2 := clOff_get h1 _ u hu
  rw [show o + j / 3 * 3 + j % 3 = o + j from by omega] at h2
  exact h2
theorem clsAt_mk {w : World} {g o : Nat} {L : List M.Cl} (h : ∀ j u, (cls L)[j]? = some u → w.cell? ⟨g, o + j, none⟩ = some u) : ClsAt w (some ⟨g, o, none⟩) L := fun _ =>
  ⟨g, o, rfl, fun j hj => by
    have k := fun i (hi : i < 3) u (hu : (clL (L.getD j M.cl0))[i]? = some u) => h (j * 3 + i) u ((cls_get L j i hj hi).trans hu)
    refine ⟨?_, ?_, ?_⟩
    · have := k 0 (by omega) _ rfl; rwa [show o + (j * 3 + 0) = o + j * 3 from by omega] at this
    · have := k 1 (by omega) _ rfl; rwa [show o + (j * 3 + 1) = o + j * 3 + 1 from by omega] at this
    · have := k 2 (by omega) _ rfl; rwa [show o + (j * 3 + 2) = o + j * 3 + 2 from by omega] at this⟩
theorem clsAt_own {B : Nat} {w : World} {ao : Option Addr} {cap n : Nat} {L : List M.Cl} {T : TypeId} (h : w.ownsRow B T 3 (.slice ao n cap) n (cls L)) (hn : n = L.length) : ClsAt w ao L := by
  subst hn
  intro hne
  rcases h.2 with ⟨_, h0⟩ | ⟨g, cap', cur, e, _, hg, _⟩
  · exact absurd (List.eq_nil_of_length_eq_zero h0) hne
  · injection e with e1 e2 e3
    subst e1
    have hc := fun i u (hu : (cls L)[i]? = some u) => h.cells (g := g) rfl i u hu
    have ha : ∀ n : Nat, (⟨g, 0, none⟩ : Addr).add n = ⟨g, n, none⟩ := fun n => by unfold Addr.add; split <;> simp_all
    simp only [ha] at hc
    exact clsAt_mk (fun j u hu => by rw [Nat.zero_add]; exact hc j u hu) hne
theorem cl_new (w : World) (x : M.Cl) (T : TypeId) : ∀ j u, (clL x)[j]? = some u → (w.alloc (.cells (clA x) T)).cell? ((⟨w.heap.size, 0, none⟩ : Addr).add j) = some u := by
  intro j u h
  have hadd : (⟨w.heap.size, 0, none⟩ : Addr).add j = ⟨w.heap.size, j, none⟩ := by unfold Addr.add; split <;> simp_all
  rw [hadd, (rowIn_new _ T w).cell j]
  simpa [clL] using h
/-- A block that is known whole: the cells that lie in it. -/
theorem clsAt_row {w : World} {C : Array Value} {T : TypeId} {g : Nat} {L : List M.Cl} (h : RowIn C T w g) (hC : C.toList = cls L) : ClsAt w (some ⟨g, 0, none⟩) L :=
  clsAt_mk fun j u hu => by
    rw [Nat.zero_add, h.cell j, ← Array.getElem?_toList, hC]
    exact hu
theorem add_row {w : World} {C : Array Value} {T : TypeId} {g : Nat} {xs : List Value} (h : RowIn C T w g) (hC : C.toList = xs) (j : Nat) (u : Value) (hu : xs[j]? = some u) : w.cell? ((⟨g, 0, none⟩ : Addr).add j) = some u := by
  have hadd : (⟨g, 0, none⟩ : Addr).add j = ⟨g, j, none⟩ := by unfold Addr.add; split <;> simp_all
  rw [hadd, h.cell j, ← Array.getElem?_toList, hC]
  exact hu
/-- Rows of elements of unlike types lie apart. -/
theorem own_apart {w : World} {B B' : Nat} {e e' : TypeId} {sz sz' : Nat} {v u : Value} {n m : Nat} {xs ys : List Value} (h : w.ownsRow B e sz v n xs) (k : w.ownsRow B' e' sz' u m ys) (hne : e ≠ e') : v.ownBlock = none ∨ v.ownBlock ≠ u.ownBlock := by
  rcases h.2 with ⟨rfl, _⟩ | ⟨g, cap, cur, rfl, hb, hg, _⟩
  · exact .inl rfl
  · right
    rcases k.2 with ⟨rfl, _⟩ | ⟨g', cap', cur', rfl, hb', hg', _⟩
    · simp [Value.ownBlock]
    · simp only [Value.ownBlock, ne_eq, Option.some.injEq]
      intro e1
      subst e1
      rw [hg] at hg'
      simp at hg'
      exact hne hg'.2

end Go.Proofs.Ytjlddackpckmfaa

/- What comes in: cells, and rows of cells and of spans. -/
namespace Go.Proofs.Ytjlddackpckmfaa
set_option linter.unusedVariables false
open Go Go.RowKit

structure M.Cl.ints (c : M.Cl) : Prop where
  h1 : -9223372036854775808 ≤ c.seq
  h2 : c.seq ≤ 9223372036854775807
section
variable {H : Type} {enc : TypeId × Value → H} {W : World} {fuel : Nat} {cs : List Value} {x : DataW H × List MemPlace} {B : Nat} {sp : Nat → Bool} {hd : Bool}
set_option maxRecDepth 100000 in
theorem cl_cellsP (hf : DataW.trod enc Try.prog W B sp hd fuel 25 cs = some x) : ∃ y : M.Cl, cs = clL y ∧ y.ints := by
  have ct : Try.prog.cellsOf 25 = 3 := by kernel_rfl
  have k0 : Try.prog.cellsOf 3 = 1 := by kernel_rfl
  have k1 : Try.prog.cellsOf 9 = 1 := by kernel_rfl
  obtain ⟨xs, n, _, _, hlen, hn, hel⟩ := DataW.trod_struct Try.underlying25 hf
  have hnn : xs.length = 3 := hn
  rw [ct] at hlen
  match cs, hlen with
  | [c0, c1, c2], _ =>
    have h0 : DataW.trod enc Try.prog W B sp hd n 9 (List.take (Try.prog.cellsOf 9) (List.drop 0 [c0, c1, c2])) = xs[0]? := hel 0 _ rfl
    rw [k1] at h0
    obtain ⟨x0, hx0⟩ : ∃ x, xs[0]? = some x := ⟨xs[0], by simp [hnn]⟩
    rw [hx0] at h0
    have h1 : DataW.trod enc Try.prog W B sp hd n 3 (List.take (Try.prog.cellsOf 3) (List.drop 1 [c0, c1, c2])) = xs[1]? := hel 1 _ rfl
    rw [k0] at h1
    obtain ⟨x1, hx1⟩ : ∃ x, xs[1]? = some x := ⟨xs[1], by simp [hnn]⟩
    rw [hx1] at h1
    have h2 : DataW.trod enc Try.prog W B sp hd n 9 (List.take (Try.prog.cellsOf 9) (List.drop 2 [c0, c1, c2])) = xs[2]? := hel 2 _ rfl
    rw [k1] at h2
    obtain ⟨x2, hx2⟩ : ∃ x, xs[2]? = some x := ⟨xs[2], by simp [hnn]⟩
    rw [hx2] at h2
    obtain ⟨a0, e0, _, w0⟩ := DataW.trod_string Try.underlying9 h0
    obtain ⟨a1, e1, _, w1⟩ := DataW.trod_int Try.underlying3 h1
    obtain ⟨a2, e2, _, w2⟩ := DataW.trod_string Try.underlying9 h2
    have r1 := i64_wfP w1
    simp at e0 e1 e2
    exact ⟨⟨a0.data.toList, a1, a2.data.toList⟩, by rw [e0, e1, e2]; rfl, ⟨r1.1, r1.2⟩⟩
set_option maxRecDepth 100000 in
theorem cells_cellsP (hf : DataW.trod enc Try.prog W 0 sp hd fuel 29 cs = some x) : ∃ (L : List M.Cl) (ao : Option Addr) (cap : Nat), cs = [.slice ao L.length cap] ∧ L.length ≤ 9223372036854775807 ∧ (∀ y ∈ L, y.ints) ∧ L.length ≤ cap ∧ ClsAt W ao L := by
  have c8 : Try.prog.cellsOf 25 = 3 := by kernel_rfl
  rcases Deep.open_slice Try.underlying29 hf with ⟨hcs, _⟩ | ⟨a, len, cap, m, n, D, Pl, hcs, _, hl, hm, hmm, _, hx⟩
  · exact ⟨[], none, 0, hcs, by simp, by simp, by simp, fun h => absurd rfl h⟩
  · rw [c8] at hx
    have hlm : len ≤ m := by rw [hmm]; split <;> omega
    unfold maxLen at hm
    obtain ⟨L, hL, hp⟩ := choose_listP M.cl0 len (p := fun i y => W.cells? 0 (a.add (i * 3)) 3 = some (clL y) ∧ y.ints) (fun i hi => by
      obtain ⟨cs', h1, h2⟩ := hx i (by omega)
      obtain ⟨y, rfl, hok⟩ := cl_cellsP h2
      exact ⟨y, h1, hok⟩)
    refine ⟨L, some a, cap, by rw [hcs, hL], by omega, fun y hym => ?_, by omega, fun hne => ?_⟩
    · obtain ⟨i, hi, rfl⟩ := List.mem_iff_getElem.1 hym
      have := (hp i (by omega)).2
      simpa [List.getD, List.getElem?_eq_getElem hi] using this
    · have h0 : 0 < len := by rw [← hL]; exact List.length_pos_iff.2 hne
      have e := addr_plainP (cells_getP (hp 0 h0).1 0 _ rfl)
      simp only [Nat.zero_mul, show ∀ x : Addr, x.add 0 = x from fun x => if_pos rfl] at e
      refine ⟨a.block, a.off, by rw [← e], fun j hj => ?_⟩
      have hc := cells_getP (hp j (by omega)).1
      rw [e, Addr.add_lit] at hc
      exact ⟨(hc 0 _ rfl), (hc 1 _ rfl), (hc 2 _ rfl)⟩
end
/-- A cell, a row of cells, a row of spans that come in. -/
def UCl (v : Value) : Prop := ∃ c : M.Cl, v = .agg (clA c) ∧ c.ints
def UCs (W : World) (v : Value) : Prop := ∃ (L : List M.Cl) (ao : Option Addr) (cap : Nat), v = .slice ao L.length cap ∧ L.length ≤ 9223372036854775807 ∧ (∀ x ∈ L, x.ints) ∧ L.length ≤ cap ∧ ClsAt W ao L
def USs (W : World) (v : Value) : Prop := ∃ (L : List M.Sp) (ao : Option Addr) (cap : Nat), v = .slice ao L.length cap ∧ L.length ≤ 9223372036854775807 ∧ (∀ x ∈ L, x.ints) ∧ L.length ≤ cap ∧ SpsAt W ao L
section
variable {H : Type} {enc : TypeId × Value → H} {W : World} {r : Reach} {b0 : Nat} {v : Value} {d : DataW H} {p : List MemPlace}
set_option maxRecDepth 100000 in
theorem open_cell (hv : Value.okWide Try.prog W r b0 25 v) (h : DataW.Trod enc Try.prog W 0 (fun _ => true) true 25 v d p) : UCl v := by
  obtain ⟨cs, rfl, hsz⟩ := WideShapes.okWide_struct Try.underlying25 hv
  obtain ⟨fuel, hf⟩ := h
  obtain ⟨y, hcs, h1⟩ := cl_cellsP hf
  have hcs' : cs.toList = [.string (S y.key), .int .i64 y.seq, .string (S y.val)] := hcs
  refine ⟨y, ?_, h1⟩
  rw [show cs = [.string (S y.key), .int .i64 y.seq, .string (S y.val)].toArray from by rw [← hcs']]
set_option maxRecDepth 100000 in
theorem open_cells (hv : Value.okWide Try.prog W r b0 29 v) (h : DataW.Trod enc Try.prog W 0 (fun _ => true) true 29 v d p) : UCs W v := by
  obtain ⟨a0, len, cap, rfl⟩ := WideShapes.okWide_slice Try.underlying29 hv
  obtain ⟨fuel, hf⟩ := h
  obtain ⟨L, ao, cap', hcs, h1, h2, h3, h4⟩ := cells_cellsP hf
  simp [Value.cells] at hcs
  obtain ⟨rfl, rfl, rfl⟩ := hcs
  exact ⟨L, a0, cap, rfl, h1, h2, h3, h4⟩
set_option maxRecDepth 100000 in
theorem open_spans (hv : Value.okWide Try.prog W r b0 27 v) (h : DataW.Trod enc Try.prog W 0 (fun _ => true) true 27 v d p) : USs W v := by
  obtain ⟨a0, len, cap, rfl⟩ := WideShapes.okWide_slice Try.underlying27 hv
  obtain ⟨fuel, hf⟩ := h
  obtain ⟨L, ao, cap', hcs, h1, h2, h3, h4⟩ := spans_cellsP hf
  simp [Value.cells] at hcs
  obtain ⟨rfl, rfl, rfl⟩ := hcs
  exact ⟨L, a0, cap, rfl, h1, h2, h3, h4⟩
end

end Go.Proofs.Ytjlddackpckmfaa

/- What stands over a call that only makes memory: one law for facts of all kinds. -/
namespace Go.Proofs.Ytjlddackpckmfaa
set_option linter.unusedVariables false
open Go Go.RowKit

/-- What a fact of one world is of a later one. -/
class Car (w w' : World) (A : Prop) (A' : outParam Prop) : Prop where
  go : Below w.heap.size w w' → A → A'
theorem carry {w w' : World} (hb : Below w.heap.size w w') {A A' : Prop} [h : Car w w' A A'] (k : A) : A' := h.go hb k
theorem carryA {w : World} (o : Obj) {A A' : Prop} [h : Car w (w.alloc o) A A'] (k : A) : A' := h.go ((Below.refl _ _).alloc (Nat.le_refl _) _) k
instance car_and {w w' : World} {A B A' B' : Prop} [h : Car w w' A A'] [k : Car w w' B B'] : Car w w' (A ∧ B) (A' ∧ B') := ⟨fun hb ⟨a, b⟩ => ⟨h.go hb a, k.go hb b⟩⟩
instance car_hid {w w' : World} {A A' : Prop} [h : Car w w' A A'] : Car w w' (Hid A) (Hid A') := ⟨fun hb a => Lib.hid (h.go hb a.out)⟩
instance car_row {w w' : World} {C : Array Value} {T : TypeId} {b : Nat} : Car w w' (RowIn C T w b) (RowIn C T w' b) := ⟨fun hb h => h.below hb⟩
instance car_own {w w' : World} {B sz : Nat} {e : TypeId} {v : Value} {n : Nat} {xs : List Value} : Car w w' (w.ownsRow B e sz v n xs) (w'.ownsRow B e sz v n xs) := ⟨fun hb h => ownP_below h hb⟩
instance car_cls {w w' : World} {ao : Option Addr} {L : List M.Cl} : Car w w' (ClsAt w ao L) (ClsAt w' ao L) := ⟨fun hb h => h.below hb⟩
instance car_below {w w' W : World} : Car w w' (Below W.heap.size W w) (Below W.heap.size W w') := ⟨fun hb h => below_step h hb⟩
instance car_le {w w' : World} {n : Nat} : Car w w' (n ≤ w.heap.size) (n ≤ w'.heap.size) := ⟨fun hb h => Nat.le_trans h hb.size⟩
instance car_lt {w w' : World} {n : Nat} : Car w w' (n < w.heap.size) (n < w'.heap.size) := ⟨fun hb h => Nat.lt_of_lt_of_le h hb.size⟩
theorem ownsMap_below {H : Type} {P : Program} {k : TypeId} {R : Value → Option (DataW H × List MemPlace)} {w w' : World} {b n : Nat} {D : DataW H} (h : w.ownsMap P k R b n D) (hb : Below w.heap.size w w') : w'.ownsMap P k R b n D := by
  have hlt := h.lt
  obtain ⟨es, clock, h1, F, hs, hD⟩ := h
  exact ⟨es, clock, (hb.block b hlt).trans h1, F, hs, hD⟩
instance car_map {w w' : World} {H : Type} {P : Program} {k : TypeId} {R : Value → Option (DataW H × List MemPlace)} {b n : Nat} {D : DataW H} : Car w w' (w.ownsMap P k R b n D) (w'.ownsMap P k R b n D) := ⟨fun hb h => ownsMap_below h hb⟩
/-- A block that is known whole is no row of elements of another type. -/
theorem row_apart {w : World} {C : Array Value} {T : TypeId} {b : Nat} {B : Nat} {e : TypeId} {sz : Nat} {v : Value} {n : Nat} {xs : List Value} (h : RowIn C T w b) (k : w.ownsRow B e sz v n xs) (hne : T ≠ e) : ∀ q, v.ownBlock = some q → q ≠ b := by
  intro q hq e1
  subst e1
  rcases k.2 with ⟨rfl, _⟩ | ⟨g, cap, cur, rfl, hb, hg, _⟩
  · cases hq
  · simp only [Value.ownBlock, Option.some.injEq] at hq
    subst hq
    unfold RowIn at h
    rw [hg] at h
    simp at h
    exact hne h.2.symm
/-- Of a block below a row's base. -/
theorem own_ne {w : World} {base : Nat} {e : TypeId} {size : Nat} {v : Value} {n : Nat} {xs : List Value} (h : w.ownsRow base e size v n xs) {b : Nat} (hb : b < base) : some b ≠ v.ownBlock := fun e1 => by
  have := (h.lt b e1.symm).1
  omega
theorem own_ne' {w : World} {base : Nat} {e : TypeId} {size : Nat} {v : Value} {n : Nat} {xs : List Value} (h : w.ownsRow base e size v n xs) {b : Nat} (hb : b < base) : v.ownBlock = none ∨ v.ownBlock ≠ some b := .inr (own_ne h hb).symm
theorem car_try {C : Array Value} {T : TypeId} {w w' W : World} {b : Nat} {ao : Option Addr} {L : List M.Cl} (h : Hid (RowIn C T w b ∧ ClsAt w ao L ∧ Below W.heap.size W w)) (hb : Below w.heap.size w w') : RowIn C T w' b ∧ ClsAt w' ao L ∧ Below W.heap.size W w' := by
  have k := carry hb h
  exact k.out

end Go.Proofs.Ytjlddackpckmfaa

/- The same for spans' rows. -/
namespace Go.Proofs.Ytjlddackpckmfaa
set_option linter.unusedVariables false
open Go Go.RowKit
instance car_sps {w w' : World} {ao : Option Addr} {L : List M.Sp} : Car w w' (SpsAt w ao L) (SpsAt w' ao L) := ⟨fun hb h => h.below hb⟩

end Go.Proofs.Ytjlddackpckmfaa
