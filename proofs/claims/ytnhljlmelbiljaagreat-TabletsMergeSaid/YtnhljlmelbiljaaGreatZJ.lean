/- Texts of lower layers, as one. -/
import Derived.Test.YtnhljlmelbiljaaGreatZA
import Derived.Orders
import Derived.RegionTactic
import Derived.Test.YtnhljlmelbiljaaGreatZH
import Derived.Test.YtnhljlmelbiljaaGreatZG
import Derived.BigQuiet
import Derived.Test.YtnhljlmelbiljaaGreatZI
import Derived.Test.YtnhljlmelbiljaaGreatZF
import Derived.Maps.AppendAt
import Derived.BigRegion
import Derived.OpenShut
/- A region that draws its order, walked operation by operation: what holds is said of what has come up, not of the order in which it came. -/
namespace Go.Proofs.YtnhljlmelbiljaaGreat
set_option linter.unusedVariables false
open Go Go.RowKit

/-- A list of one, or of none. -/
def opt1 {α : Type} (b : Bool) (x : α) : List α := if b then [x] else []
theorem mem_opt1 {α : Type} {b : Bool} {x p : α} : p ∈ opt1 b x ↔ b = true ∧ p = x := by
  unfold opt1; cases b <;> simp
section
variable {P : Program} {ops : Array Oper} {Q : Exit → Act → World → Prop} {md : Region.Mode}
theorem wpAny_walk0 {σ : Type} (lst : σ → Array Bool) (nx : σ → List (Nat × σ)) (m : σ → Nat) (k : Nat) (J : σ → Act → World → Prop)
    (hr : ∀ s, nx s ≠ [] → Region.ready md ops (lst s) = (nx s).map Prod.fst)
    (hl : ∀ s, ∀ p ∈ nx s, (lst s).setIfInBounds p.1 true = lst p.2 ∧ m p.2 + 1 = m s)
    (hs : ∀ s a w, J s a w → ∀ p ∈ nx s, wpOp P ops Q p.1 (J p.2) a w)
    (he : ∀ s a w, nx s = [] → J s a w → wpAny P md ops Q (k + m s) (lst s) a w) :
    ∀ (n : Nat) (s : σ) (a : Act) (w : World), m s = n → J s a w → wpAny P md ops Q (k + n) (lst s) a w
  | 0, s, a, w, hm, hJ => by
    by_cases hn : nx s = []
    · have := he s a w hn hJ; rwa [hm] at this
    · obtain ⟨p, hp⟩ := List.exists_mem_of_ne_nil _ hn
      have := (hl s p hp).2
      omega
  | n + 1, s, a, w, hm, hJ => by
    by_cases hn : nx s = []
    · have := he s a w hn hJ; rwa [hm] at this
    · refine wpAny_all (hr s hn) (by simpa using hn) ?_
      intro i hi
      obtain ⟨p, hp, rfl⟩ := List.mem_map.1 hi
      obtain ⟨h1, h2⟩ := hl s p hp
      refine wpOp_mono (fun a' w' h => ?_) (hs s a w hJ p hp)
      rw [h1]
      exact wpAny_walk0 lst nx m k J hr hl hs he n p.2 a' w' (by omega) h
/-- What is asked of the states, to be settled by counting. -/
def walkOk {σ : Type} (md : Region.Mode) (ops : Array Oper) (lst : σ → Array Bool) (nx : σ → List (Nat × σ)) (m : σ → Nat) (s : σ) : Bool :=
  ((nx s).isEmpty || Region.ready md ops (lst s) == (nx s).map Prod.fst) && (nx s).all (fun p => (lst s).setIfInBounds p.1 true == lst p.2 && m p.2 + 1 == m s)
theorem wpAny_walk {σ : Type} {a0 : Act} {w0 : World} {listed : Array Bool} {fuel : Nat} (lst : σ → Array Bool) (nx : σ → List (Nat × σ)) (m : σ → Nat) (k : Nat) (s0 : σ) (J : Act → σ → Act → World → Prop)
    (hok : ∀ s, walkOk md ops lst nx m s = true) (hl0 : listed = lst s0) (hf : fuel = k + m s0)
    (h0 : J a0 s0 a0 w0)
    (hs : ∀ s a w, J a0 s a w → ∀ p ∈ nx s, wpOp P ops Q p.1 (J a0 p.2) a w)
    (he : ∀ s a w, nx s = [] → J a0 s a w → wpAny P md ops Q (k + m s) (lst s) a w) : wpAny P md ops Q fuel listed a0 w0 := by
  subst hl0 hf
  refine wpAny_walk0 lst nx m k (J a0) (fun s hn => ?_) (fun s p hp => ?_) hs he (m s0) s0 a0 w0 rfl h0
  · have := hok s
    simp only [walkOk, Bool.and_eq_true, Bool.or_eq_true, List.isEmpty_iff, beq_iff_eq] at this
    exact this.1.resolve_left hn
  · have := hok s
    simp only [walkOk, Bool.and_eq_true, List.all_eq_true, beq_iff_eq] at this
    exact this.2 p hp
end

end Go.Proofs.YtnhljlmelbiljaaGreat

/- Plain mathematics of layer 10: the text of a table, and what is read of it. -/
namespace Go.Proofs.YtnhljlmelbiljaaGreat
set_option linter.unusedVariables false
open Go Go.RowKit

/-- Bytes, their sum behind them. -/
def M.wsum (s : List UInt8) : List UInt8 := s ++ M.big 4 (M.sumP s)
theorem M.wsum_len (s : List UInt8) : (M.wsum s).length = s.length + 4 := by simp [M.wsum, M.big_length]
/-- The cells of a block. -/
def M.blk (L : List M.Cl) (k : Nat) : List M.Cl := (L.drop (4 * k)).take 4
/-- The blocks' bytes, the index' entries, of so many blocks. -/
def M.bodyS : Nat → List M.Cl → List UInt8
  | 0, _ => []
  | k + 1, L => M.wsum (M.encCs (L.take 4)) ++ M.bodyS k (L.drop 4)
def M.entB (L : List M.Cl) : List UInt8 := M.putT (L.getD 0 M.cl0).key ++ M.putN (M.encCs (L.take 4)).length
def M.idxS : Nat → List M.Cl → List UInt8
  | 0, _ => []
  | k + 1, L => M.entB L ++ M.idxS k (L.drop 4)
theorem M.bodyS_add (k j : Nat) (L : List M.Cl) : M.bodyS (k + j) L = M.bodyS k L ++ M.bodyS j (L.drop (4 * k)) := by
  induction k generalizing L with
  | zero => simp [M.bodyS]
  | succ k ih =>
    rw [show k + 1 + j = (k + j) + 1 from by omega, M.bodyS, ih, M.bodyS, List.drop_drop, List.append_assoc, show 4 + 4 * k = 4 * (k + 1) from by omega]
theorem M.idxS_add (k j : Nat) (L : List M.Cl) : M.idxS (k + j) L = M.idxS k L ++ M.idxS j (L.drop (4 * k)) := by
  induction k generalizing L with
  | zero => simp [M.idxS]
  | succ k ih =>
    rw [show k + 1 + j = (k + j) + 1 from by omega, M.idxS, ih, M.idxS, List.drop_drop, List.append_assoc, show 4 + 4 * k = 4 * (k + 1) from by omega]
theorem M.bodyS_snoc (k : Nat) (L : List M.Cl) : M.bodyS (k + 1) L = M.bodyS k L ++ M.wsum (M.encCs (M.blk L k)) := by
  rw [M.bodyS_add]; simp [M.bodyS, M.blk]
theorem M.idxS_snoc (k : Nat) (L : List M.Cl) : M.idxS (k + 1) L = M.idxS k L ++ (M.putT (L.getD (4 * k) M.cl0).key ++ M.putN (M.encCs (M.blk L k)).length) := by
  rw [M.idxS_add]; simp [M.idxS, M.entB, M.blk, List.getD]
def M.many (L : List M.Cl) : Nat := (L.length + 3) / 4
def M.spoorT : List UInt8 := [115, 112, 111, 111, 114]
def M.idxT (L : List M.Cl) : List UInt8 := M.putN (M.many L) ++ M.idxS (M.many L) L
def M.bodyT (L : List M.Cl) : List UInt8 := M.bodyS (M.many L) L
def M.tableT (L : List M.Cl) : List UInt8 := M.bodyT L ++ M.wsum (M.idxT L) ++ (M.bigN (M.bodyT L).length ++ M.bigN L.length ++ M.spoorT)

theorem M.srt_none {p : Option M.Cl} {L : List M.Cl} (h : M.srt p L = true) : M.srt none L = true := by
  cases L with
  | nil => rfl
  | cons c r =>
    simp only [M.srt, Bool.and_eq_true] at h ⊢
    refine ⟨?_, h.2⟩
    have := h.1
    simp only [M.nextB, Bool.and_eq_true] at this ⊢
    exact ⟨this.1, trivial⟩
theorem M.srt_drop {L : List M.Cl} (h : M.srt none L = true) (n : Nat) : M.srt none (L.drop n) = true := by
  rw [← List.take_append_drop n L, M.srt_append] at h
  simp only [Bool.and_eq_true] at h
  exact M.srt_none h.2
theorem M.srt_take10 {L : List M.Cl} (h : M.srt none L = true) (n : Nat) : M.srt none (L.take n) = true := by
  rw [← List.take_append_drop n L, M.srt_append] at h
  simp only [Bool.and_eq_true] at h
  exact h.1
theorem M.srt_blk {L : List M.Cl} (h : M.srt none L = true) (k : Nat) : M.srt none (M.blk L k) = true := M.srt_take10 (M.srt_drop h _) _
theorem M.blk_len (L : List M.Cl) (k : Nat) : (M.blk L k).length = min 4 (L.length - 4 * k) := by simp [M.blk]
theorem M.blk_len4 (L : List M.Cl) (k : Nat) : (M.blk L k).length ≤ 4 := by rw [M.blk_len]; omega
theorem M.blk_mem {L : List M.Cl} {k : Nat} {c : M.Cl} (h : c ∈ M.blk L k) : c ∈ L := List.mem_of_mem_drop (List.mem_of_mem_take h)
theorem M.take_blk (L : List M.Cl) (k : Nat) : L.take (4 * (k + 1)) = L.take (4 * k) ++ M.blk L k := by
  rw [show 4 * (k + 1) = 4 * k + 4 from by omega, List.take_add]; rfl
theorem M.take_many (L : List M.Cl) : L.take (4 * M.many L) = L := List.take_of_length_le (by unfold M.many; omega)
theorem M.body_len {L : List M.Cl} (h : M.srt none L = true) (k : Nat) : (M.bodyS k L).length ≤ 1000 * k := by
  induction k with
  | zero => simp [M.bodyS]
  | succ k ih =>
    have := M.encCs_len (M.srt_blk h k) (M.blk_len4 L k)
    rw [M.bodyS_snoc, List.length_append, M.wsum_len]; omega
theorem M.key_len {L : List M.Cl} (h : M.srt none L = true) (k : Nat) : (L.getD k M.cl0).key.length ≤ 64 := by
  by_cases hk : k < L.length
  · exact (M.mayC_true.1 (M.srt_may h _ (M.getD_memC hk))).2.1
  · simp [List.getD, List.getElem?_eq_none (Nat.le_of_not_lt hk), M.cl0]
theorem M.idx_len {L : List M.Cl} (h : M.srt none L = true) (k : Nat) : (M.idxS k L).length ≤ 84 * k := by
  induction k with
  | zero => simp [M.idxS]
  | succ k ih =>
    have h1 := M.key_len h (4 * k)
    have h2 := (M.putN_length (L.getD (4 * k) M.cl0).key.length).2
    have h3 := (M.putN_length (M.encCs (M.blk L k)).length).2
    rw [M.idxS_snoc]; simp only [List.length_append, M.putT]; omega

/-- It is the text of a table of these cells. -/
structure M.IsT (text : List UInt8) (L : List M.Cl) : Prop where
  s : M.srt none L = true
  n : L.length ≤ 4096
  q : ∀ c ∈ L, c.seq ≤ 9223372036854775807
  t : M.tableT L = text

/-- What of a text was not read yet; bad, once something was not there. -/
structure M.RS where
  t : List UInt8
  b : Bool
def M.cutR (r : M.RS) (n : Int) : List UInt8 × M.RS := if r.b = false ∧ 0 ≤ n ∧ n ≤ (r.t.length : Int) then (r.t.take n.toNat, ⟨r.t.drop n.toNat, false⟩) else ([], ⟨r.t, true⟩)
def M.numR (r : M.RS) : Nat × M.RS := match M.gets r.t 0 with
  | none => (0, ⟨r.t, true⟩)
  | some (n, nx) => (n, if r.b then r else ⟨r.t.drop nx, false⟩)
def M.bigR (r : M.RS) : Nat × M.RS := match M.ofBigs (M.cutR r 8).1 0 with
  | none => (0, ⟨(M.cutR r 8).2.t, true⟩)
  | some n => (n, (M.cutR r 8).2)
def M.keyR (r : M.RS) : List UInt8 × M.RS := M.cutR (M.numR r).2 (M.numR r).1
structure M.Ent where
  first : List UInt8
  block : List UInt8
  x : M.RS
  bl : M.RS
def M.entR (x bl : M.RS) : M.Ent :=
  ⟨(M.keyR x).1, (M.cutR bl (M.numR (M.keyR x).2).1).1, (M.numR (M.keyR x).2).2, (M.cutR (M.cutR bl (M.numR (M.keyR x).2).1).2 4).2⟩
theorem M.numR_put (n : Nat) (h : n ≤ 9223372036854775807) (z : List UInt8) : M.numR ⟨M.putN n ++ z, false⟩ = (n, ⟨z, false⟩) := by
  have e := M.getsP (s := M.putN n ++ z) (a := []) (c := z) (n := n) (i := 0) h (by simp) rfl
  have e0 : ((0 : Nat) : Int) = 0 := rfl
  rw [e0] at e
  unfold M.numR
  simp only [e]
  simp
theorem M.cutR_app (a z : List UInt8) : M.cutR ⟨a ++ z, false⟩ a.length = (a, ⟨z, false⟩) := by
  simp [M.cutR]; omega
theorem M.cutR_app' (a z : List UInt8) (n : Int) (h : n = a.length) : M.cutR ⟨a ++ z, false⟩ n = (a, ⟨z, false⟩) := by
  subst h; exact M.cutR_app a z
theorem M.keyR_put (k z : List UInt8) (h : k.length ≤ 9223372036854775807) : M.keyR ⟨M.putT k ++ z, false⟩ = (k, ⟨z, false⟩) := by
  unfold M.keyR
  rw [M.putT, List.append_assoc, M.numR_put _ h]
  exact M.cutR_app k z
theorem M.entR_is {L : List M.Cl} (h : M.srt none L = true) (j : Nat) : M.entR ⟨M.idxS (j + 1) L, false⟩ ⟨M.bodyS (j + 1) L, false⟩ =
    ⟨(L.getD 0 M.cl0).key, M.encCs (L.take 4), ⟨M.idxS j (L.drop 4), false⟩, ⟨M.bodyS j (L.drop 4), false⟩⟩ := by
  have h1 := M.key_len h 0
  have h2 := M.encCs_len (M.srt_take10 h 4) (n := 4) (by simp; omega)
  have e1 : M.keyR ⟨M.idxS (j + 1) L, false⟩ = ((L.getD 0 M.cl0).key, ⟨M.putN (M.encCs (L.take 4)).length ++ M.idxS j (L.drop 4), false⟩) := by
    rw [M.idxS, M.entB, List.append_assoc, M.keyR_put _ _ (by omega)]
  have e2 : M.cutR ⟨M.bodyS (j + 1) L, false⟩ ((M.encCs (L.take 4)).length : Int) = (M.encCs (L.take 4), ⟨M.big 4 (M.sumP (M.encCs (L.take 4))) ++ M.bodyS j (L.drop 4), false⟩) := by
    rw [M.bodyS, M.wsum, List.append_assoc, M.cutR_app]
  unfold M.entR
  rw [e1, M.numR_put _ (by omega)]
  simp only
  rw [e2]
  simp only
  rw [M.cutR_app' _ _ 4 (by rw [M.big_length]; rfl)]

/-- The bytes of sorted cells tell them, whatever stands behind. -/
theorem M.enc_pre10 {a b : List M.Cl} {x y : List UInt8} (ha : M.srt none a = true) (hb : M.srt none b = true) (hqa : ∀ c ∈ a, c.seq ≤ 9223372036854775807) (hqb : ∀ c ∈ b, c.seq ≤ 9223372036854775807) (hla : a.length ≤ 4) (hlb : b.length ≤ 4)
    (h : M.encCs a ++ x = M.encCs b ++ y) : a = b := by
  have g : ∀ {a : List M.Cl} (x : List UInt8), M.srt none a = true → (∀ c ∈ a, c.seq ≤ 9223372036854775807) → a.length ≤ 4 → M.gets (M.encCs a ++ x) 0 = some (a.length, (M.putN a.length).length) ∧ M.rdC true (M.encCs a ++ x) a.length (M.putN a.length).length [] = some (a, (M.encCs a).length) := fun {a} x h1 h2 h3 => by
    have hm := M.srt_may h1
    have e1 := M.getsP (s := M.encCs a ++ x) (a := []) (c := M.encL [] a ++ x) (n := a.length) (i := 0) (by omega) (by simp [M.encCs]) rfl
    have e2 := M.rd_enc true a (M.putN a.length) [] x (fun c hc => by
      have h1 := M.mayC_true.1 (hm c hc)
      exact ⟨h1.2.2.1, h2 c hc, by omega, by omega⟩) (by simp)
    exact ⟨by simpa using e1, e2⟩
  obtain ⟨a1, a2⟩ := g x ha hqa hla
  obtain ⟨b1, b2⟩ := g y hb hqb hlb
  rw [h] at a1 a2
  rw [a1] at b1
  injection b1 with b1
  injection b1 with b1 b3
  rw [b3, b1] at a2
  rw [a2] at b2
  injection b2 with b2
  injection b2
theorem M.body_inj : ∀ (k : Nat) (L K : List M.Cl), L.length ≤ 4 * k → K.length ≤ 4 * k → M.srt none L = true → M.srt none K = true → (∀ c ∈ L, c.seq ≤ 9223372036854775807) → (∀ c ∈ K, c.seq ≤ 9223372036854775807) → M.bodyS k L = M.bodyS k K → L = K
  | 0, L, K, hl, hk, _, _, _, _, _ => by
    rw [List.eq_nil_of_length_eq_zero (by omega : L.length = 0), List.eq_nil_of_length_eq_zero (by omega : K.length = 0)]
  | k + 1, L, K, hl, hk, sl, sk, ql, qk, h => by
    rw [M.bodyS, M.bodyS, M.wsum, M.wsum, List.append_assoc, List.append_assoc] at h
    have e := M.enc_pre10 (M.srt_take10 sl 4) (M.srt_take10 sk 4) (fun c hc => ql c (List.mem_of_mem_take hc)) (fun c hc => qk c (List.mem_of_mem_take hc)) (by simp; omega) (by simp; omega) h
    rw [e] at h
    have h2 := List.append_cancel_left (List.append_cancel_left h)
    have e2 := M.body_inj k (L.drop 4) (K.drop 4) (by simp; omega) (by simp; omega) (M.srt_drop sl 4) (M.srt_drop sk 4) (fun c hc => ql c (List.mem_of_mem_drop hc)) (fun c hc => qk c (List.mem_of_mem_drop hc)) h2
    rw [← List.take_append_drop 4 L, ← List.take_append_drop 4 K, e, e2]
theorem M.tab_inj {t : List UInt8} {L K : List M.Cl} (h : M.IsT t L) (g : M.IsT t K) : L = K := by
  have e := h.t.trans g.t.symm
  unfold M.tableT at e
  have hl : ∀ X : List M.Cl, (M.bigN (M.bodyT X).length ++ M.bigN X.length ++ M.spoorT).length = 21 := fun X => by simp [M.bigN_length, M.spoorT]
  obtain ⟨e1, e2⟩ := List.append_inj' e (by rw [hl, hl])
  obtain ⟨e3, e4⟩ := List.append_inj' e2 rfl
  obtain ⟨e5, e6⟩ := List.append_inj e3 (by rw [M.bigN_length, M.bigN_length])
  have hbl : ∀ X : List M.Cl, M.IsT t X → (M.bodyT X).length ≤ 9223372036854775807 := fun X hx => by
    have h1 := M.body_len hx.s (M.many X)
    have h2 := hx.n
    have : M.many X ≤ 1025 := by unfold M.many; omega
    unfold M.bodyT
    omega
  have e7 := (M.bigN_inj _ _ (hbl L h) (hbl K g)).1 e5
  have e8 := (M.bigN_inj _ _ (by have := h.n; omega) (by have := g.n; omega)).1 e6
  obtain ⟨e9, _⟩ := List.append_inj e1 e7
  have em : M.many L = M.many K := by unfold M.many; rw [e8]
  unfold M.bodyT at e9
  rw [← em] at e9
  exact M.body_inj (M.many L) L K (by unfold M.many; omega) (by unfold M.many; omega) h.s g.s h.q g.q e9
noncomputable def M.openT (t : List UInt8) : Option (List M.Cl) := by
  classical exact if h : ∃ L, M.IsT t L then some h.choose else none
theorem M.openT_some {t : List UInt8} {L : List M.Cl} (h : M.IsT t L) : M.openT t = some L := by
  have hx : ∃ L, M.IsT t L := ⟨L, h⟩
  unfold M.openT
  rw [dif_pos hx, M.tab_inj hx.choose_spec h]
theorem M.openT_none {t : List UInt8} (h : ∀ L, ¬ M.IsT t L) : M.openT t = none := by
  unfold M.openT
  rw [dif_neg (fun ⟨L, hL⟩ => h L hL)]
/-- Where a table's text parts. -/
theorem M.tab_len (L : List M.Cl) : (M.tableT L).length = (M.bodyT L).length + (M.idxT L).length + 25 := by
  simp [M.tableT, M.wsum_len, M.bigN_length, M.spoorT]; omega
theorem M.tab_body (L : List M.Cl) : (M.tableT L).take ((M.tableT L).length - 25) = M.bodyT L ++ M.idxT L := by
  rw [M.tab_len, M.tableT, M.wsum]
  rw [show M.bodyT L ++ (M.idxT L ++ M.big 4 (M.sumP (M.idxT L))) ++ (M.bigN (M.bodyT L).length ++ M.bigN L.length ++ M.spoorT) = (M.bodyT L ++ M.idxT L) ++ (M.big 4 (M.sumP (M.idxT L)) ++ (M.bigN (M.bodyT L).length ++ M.bigN L.length ++ M.spoorT)) from by simp only [List.append_assoc]]
  rw [List.take_append_of_le_length (by simp), List.take_of_length_le (by simp)]
theorem M.tab_foot (L : List M.Cl) : (M.tableT L).drop ((M.tableT L).length - 21) = M.bigN (M.bodyT L).length ++ (M.bigN L.length ++ M.spoorT) := by
  rw [M.tab_len, M.tableT]
  rw [List.drop_append_of_le_length (by simp [M.wsum_len]; omega), List.drop_of_length_le (by simp [M.wsum_len]; omega)]
  simp

/-- Which cells a range has; the order of keys. -/
def M.inR (lo hi : List UInt8) (c : M.Cl) : Bool := !Op.bytesLess c.key lo && (hi.isEmpty || Op.bytesLess c.key hi)
def M.rangeL (lo hi : List UInt8) (L : List M.Cl) : List M.Cl := L.filter (M.inR lo hi)
theorem M.le_less {a b c : List UInt8} (h : Op.bytesLess b a = false) (k : Op.bytesLess b c = true) : Op.bytesLess a c = true := by
  by_cases e : a = b
  · subst e; exact k
  · have := M.less_flip a b e
    rw [this] at h
    exact M.less_trans _ _ _ (by simpa using h) k
theorem M.key_mono {L : List M.Cl} (h : M.srt none L = true) {i j : Nat} (hij : i ≤ j) (hj : j < L.length) : Op.bytesLess (L.getD j M.cl0).key (L.getD i M.cl0).key = false := by
  rcases Nat.lt_or_ge i j with q | q
  · rcases M.ahead_iff.1 (M.srt_pair h i j q hj) with r | ⟨r, _⟩
    · cases k : Op.bytesLess (L.getD j M.cl0).key (L.getD i M.cl0).key with
      | false => rfl
      | true => have := M.less_trans _ _ _ r k; rw [M.less_irr] at this; cases this
    · rw [r, M.less_irr]
  · obtain rfl : i = j := by omega
    exact M.less_irr _
/-- The first keys, and the bytes, of so many blocks. -/
def M.firsts (L : List M.Cl) (k : Nat) : List (List UInt8) := (List.range k).map (fun i => (L.getD (4 * i) M.cl0).key)
def M.blksB (L : List M.Cl) (k : Nat) : List (List UInt8) := (List.range k).map (fun i => M.encCs (M.blk L i))
theorem M.firsts_snoc (L : List M.Cl) (k : Nat) : M.firsts L (k + 1) = M.firsts L k ++ [(L.getD (4 * k) M.cl0).key] := by simp [M.firsts, List.range_succ]
theorem M.blksB_snoc (L : List M.Cl) (k : Nat) : M.blksB L (k + 1) = M.blksB L k ++ [M.encCs (M.blk L k)] := by simp [M.blksB, List.range_succ]
theorem M.firsts_get (L : List M.Cl) {k i : Nat} (h : i < k) : (M.firsts L k).getD i [] = (L.getD (4 * i) M.cl0).key := by simp [M.firsts, List.getD, h]
theorem M.blksB_get (L : List M.Cl) {k i : Nat} (h : i < k) : (M.blksB L k).getD i [] = M.encCs (M.blk L i) := by simp [M.blksB, List.getD, h]
theorem M.firsts_len (L : List M.Cl) (k : Nat) : (M.firsts L k).length = k := by simp [M.firsts]
theorem M.blksB_len (L : List M.Cl) (k : Nat) : (M.blksB L k).length = k := by simp [M.blksB]
/-- Cells of blocks ahead of the one in which a key may begin. -/
theorem M.ahead_start {L : List M.Cl} (h : M.srt none L = true) {key : List UInt8} {s : Nat} (hs : s = 0 ∨ (4 * s < L.length ∧ Op.bytesLess (L.getD (4 * s) M.cl0).key key = true)) {j : Nat} (hj : j < 4 * s) : Op.bytesLess (L.getD j M.cl0).key key = true := by
  rcases hs with rfl | ⟨h1, h2⟩
  · omega
  · exact M.le_less (M.key_mono h (by omega) h1) h2
theorem M.mem_getD {L : List M.Cl} {n : Nat} {c : M.Cl} (h : c ∈ L.take n) : ∃ j, j < n ∧ j < L.length ∧ L.getD j M.cl0 = c := by
  obtain ⟨j, hj, rfl⟩ := List.getElem_of_mem h
  simp only [List.length_take] at hj
  have h2 : j < L.length := by omega
  exact ⟨j, by omega, h2, by simp [List.getD, h2]⟩
theorem M.mem_getD' {L : List M.Cl} {n : Nat} {c : M.Cl} (h : c ∈ L.drop n) : ∃ j, n ≤ j ∧ j < L.length ∧ L.getD j M.cl0 = c := by
  obtain ⟨j, hj, rfl⟩ := List.getElem_of_mem h
  simp at hj
  exact ⟨n + j, by omega, by omega, by simp [List.getD, show n + j < L.length by omega]⟩
theorem M.range_start {L : List M.Cl} (h : M.srt none L = true) {lo hi : List UInt8} {s : Nat} (hs : s = 0 ∨ (4 * s < L.length ∧ Op.bytesLess (L.getD (4 * s) M.cl0).key lo = true)) : M.rangeL lo hi (L.take (4 * s)) = [] := by
  rw [M.rangeL, List.filter_eq_nil_iff]
  intro c hc
  obtain ⟨j, h1, h2, rfl⟩ := M.mem_getD hc
  simp only [M.inR, M.ahead_start h hs h1]
  simp
theorem M.range_snoc (L : List M.Cl) (lo hi : List UInt8) (k : Nat) : M.rangeL lo hi (L.take (4 * (k + 1))) = M.rangeL lo hi (L.take (4 * k)) ++ M.rangeL lo hi (M.blk L k) := by
  rw [M.take_blk, M.rangeL, List.filter_append]; rfl
theorem M.range_end {L : List M.Cl} (h : M.srt none L = true) {lo hi : List UInt8} {k : Nat} (hh : hi.isEmpty = false) (hk : Op.bytesLess (L.getD (4 * k) M.cl0).key hi = false) : M.rangeL lo hi L = M.rangeL lo hi (L.take (4 * k)) := by
  conv => lhs; rw [← List.take_append_drop (4 * k) L]
  rw [M.rangeL, List.filter_append, M.rangeL]
  have : (L.drop (4 * k)).filter (M.inR lo hi) = [] := by
    rw [List.filter_eq_nil_iff]
    intro c hc
    obtain ⟨j, h1, h2, rfl⟩ := M.mem_getD' hc
    have h3 := M.key_mono h h1 h2
    have : Op.bytesLess (L.getD j M.cl0).key hi = false := by
      cases q : Op.bytesLess (L.getD j M.cl0).key hi with
      | false => rfl
      | true => rw [M.le_less h3 q] at hk; cases hk
    simp only [M.inR, this, hh]
    simp
  rw [this, List.append_nil]
theorem M.find_append (k : List UInt8) (A B : List M.Cl) : M.findL k (A ++ B) = match M.findL k A with
  | some x => some x
  | none => M.findL k B := by
  rw [M.findL, List.find?_append]
  unfold M.findL
  cases A.find? (fun c => decide (c.key = k)) <;> rfl
theorem M.find_start {L : List M.Cl} (h : M.srt none L = true) {key : List UInt8} {s : Nat} (hs : s = 0 ∨ (4 * s < L.length ∧ Op.bytesLess (L.getD (4 * s) M.cl0).key key = true)) : M.findL key (L.take (4 * s)) = none := by
  rw [M.findL, List.find?_eq_none]
  intro c hc
  obtain ⟨j, h1, h2, rfl⟩ := M.mem_getD hc
  have := M.ahead_start h hs h1
  simp only [decide_eq_true_eq]
  intro e
  rw [e, M.less_irr] at this
  cases this
theorem M.find_snoc (L : List M.Cl) (key : List UInt8) (k : Nat) (h : M.findL key (L.take (4 * k)) = none) : M.findL key (L.take (4 * (k + 1))) = M.findL key (M.blk L k) := by
  rw [M.take_blk, M.find_append, h]
theorem M.find_hit (L : List M.Cl) (key : List UInt8) (n : Nat) {c : M.Cl} (h : M.findL key (L.take n) = some c) : M.findL key L = some c := by
  conv => lhs; rw [← List.take_append_drop n L]
  rw [M.find_append, h]
theorem M.find_end {L : List M.Cl} (h : M.srt none L = true) {key : List UInt8} {k : Nat} (hk : Op.bytesLess key (L.getD (4 * k) M.cl0).key = true) (hf : M.findL key (L.take (4 * k)) = none) : M.findL key L = none := by
  conv => lhs; rw [← List.take_append_drop (4 * k) L]
  rw [M.find_append, hf]
  simp only
  rw [M.findL, List.find?_eq_none]
  intro c hc
  obtain ⟨j, h1, h2, rfl⟩ := M.mem_getD' hc
  simp only [decide_eq_true_eq]
  intro e
  have h3 := M.key_mono h h1 h2
  rw [e, hk] at h3
  cases h3

end Go.Proofs.YtnhljlmelbiljaaGreat

/- Two strings.Builders of one call, side by side: neither is written into the other's row. -/
namespace Go.Proofs.YtnhljlmelbiljaaGreat
set_option linter.unusedVariables false
open Go Go.RowKit

section
variable {P : Program} (w : World)
/-- Where the new slice lies. -/
theorem append_string_where (base : Nat) (t u ty e : TypeId) (i : TypeInfo) (ht : P.underlying t = some (.slice e)) (hu : P.underlying u = some .string) (hi : P.info? e = some i) (hz : i.zero = some (.int .u8 0)) (hsize : i.size = 1) (hby : i.bytes = 1)
    (v : Value) (n : Nat) (xs : List Value) (hown : w.ownsRow base e 1 v n xs) (s : ByteArray) (h63 : n + s.size ≤ maxLen) (hbytes : n + s.size ≤ 140737488355328) {v' : Value} {w' : World}
    (hr : (Builtin.append_ #[t, u] ty #[v, .string s]).run P w = .ok v' w') (hn : v' = .slice none 0 0 ↔ v = .slice none 0 0 ∧ s.size = 0) : v'.ownBlock = v.ownBlock ∨ v'.ownBlock = some w.heap.size := by
  have hsmall : n + s.size ≤ 9223372036854775807 := by simp only [maxLen] at h63; omega
  have hxl : xs.length = n := by simpa using hown.1
  rcases hown.2 with ⟨rfl, rfl⟩ | ⟨g, cap, cur, rfl, hbg, hg, hnc, hcm, hcs, htake⟩
  · by_cases hm : s.size = 0
    · left; rw [hn.2 ⟨rfl, hm⟩]
    · have hr2 := run_append_nil_string (P := P) w t u ty e i (.int .u8 0) ht hu hi hz s (by omega) (by omega) (by rw [hby]; omega)
      rw [hr] at hr2
      injection hr2 with h1 h2
      right; rw [h1]; rfl
  · by_cases hroom : n + s.size ≤ cap
    · have hr2 := Lib.run_append_room_string (P := P) w t u ty e i ht hu hi hsize g n cap cur hg s hroom (by simp at hcs; omega)
      rw [hr] at hr2
      injection hr2 with h1 h2
      left; rw [h1]; rfl
    · have holds : ∀ j u, xs[j]? = some u → w.cell? ((⟨g, 0, none⟩ : Addr).add j) = some u := hown.cells (g := g) rfl
      have hr2 := Lib.run_append_grow_string (P := P) w t u ty e i (.int .u8 0) ht hu hi hz ⟨g, 0, none⟩ n cap xs (by rw [hsize]; simpa using hxl) holds s (by omega) (by omega) (by rw [hby]; exact growslice_fits (by omega) (by omega))
      rw [hr] at hr2
      injection hr2 with h1 h2
      right; rw [h1]; rfl
theorem wpList_append_string_at {ops : Array Oper} {rest : List Oper} {o : Oper} {a : Act} {Q : Exit → Act → World → Prop} (hgd : o.guard = none) (sl x : Operand) (t u : TypeId)
    (ho : o.op = .call { callee := .builtin .append, args := #[sl, x], argTypes := #[t, u] })
    (base : Nat) (e : TypeId) (i : TypeInfo) (ht : P.underlying t = some (.slice e)) (hu : P.underlying u = some .string) (hi : P.info? e = some i) (hz : i.zero = some (.int .u8 0))
    (hsize : i.size = 1) (hby : i.bytes = 1)
    (v : Value) (n : Nat) (xs : List Value) (hs : a.eval sl = v) (hown : w.ownsRow base e 1 v n xs) (s : ByteArray) (hx : a.eval x = .string s)
    (h63 : n + s.size ≤ maxLen) (hbytes : n + s.size ≤ 140737488355328) (hbase : base ≤ w.heap.size)
    (h : ∀ v' w', w'.ownsRow base e 1 v' (n + s.size) (xs ++ Lib.strCells s) → w.grownBy w' v.ownBlock → (v'.ownBlock = v.ownBlock ∨ v'.ownBlock = some w.heap.size) → wpList P ops Q rest (a.put o.dst v') w') : wpList P ops Q (o :: rest) a w := by
  refine wpList_plain hgd fun K hK => ?_
  obtain ⟨v', w', hr, h2, h3, h4⟩ := Lib.run_append_own_string (P := P) w base t u o.type e i ht hu hi hz hsize hby v n xs hown s h63 hbytes hbase
  have h5 := append_string_where w base t u o.type e i ht hu hi hz hsize hby v n xs hown s h63 hbytes hr h4
  unfold Oper.wp execOp
  simp only [ho, resolve, invoke, builtin, Sem.run_bind, Sem.run_pure, Result.andThen_ok, List.map_toArray, List.map_cons, List.map_nil, hs, hx, hr]
  exact hK _ _ (h v' w' h2 h3 h5)
end

/-- A builder by its row. -/
structure BdV (B b : Nat) (l : List UInt8) (v : Value) (w : World) : Prop where
  hB : B ≤ b
  row : RowIn #[.pointer none, v] 86 w b ∨ RowIn #[.pointer (some ⟨b, 0, none⟩), v] 86 w b
  own : w.ownsRow B 5 1 v l.length (Lib.byteCells l)
theorem BdV.ne {B b : Nat} {l : List UInt8} {v : Value} {w : World} (h : BdV B b l v w) : v.ownBlock ≠ some b := by
  rcases h.row with k | k
  · exact fun e => row_apart k h.own (by decide) b e rfl
  · exact fun e => row_apart k h.own (by decide) b e rfl
theorem BdV.at_ {B b : Nat} {l : List UInt8} {v : Value} {w : World} (h : BdV B b l v w) : BdAt B b l w := by
  have hl : (Lib.byteCells l).length = l.length := by simp [Lib.byteCells]
  rcases h.row with k | k
  · exact .inl ⟨h.hB, v, k, by rw [hl]; exact h.own, h.ne⟩
  · exact .inr ⟨h.hB, v, k, by rw [hl]; exact h.own, h.ne⟩
theorem BdV.lt {B b : Nat} {l : List UInt8} {v : Value} {w : World} (h : BdV B b l v w) : b < w.heap.size := by
  rcases h.row with k | k <;> exact k.lt
theorem BdV.below {B b : Nat} {l : List UInt8} {v : Value} {w w' : World} (h : BdV B b l v w) (hb : Below w.heap.size w w') : BdV B b l v w' :=
  ⟨h.hB, h.row.imp (fun k => k.below hb) (fun k => k.below hb), ownP_below h.own hb⟩
theorem BdV.only {A : Nat → Prop} {B b : Nat} {l : List UInt8} {v : Value} {w w' : World} (h : BdV B b l v w) (hf : OnlyS A w w') (h1 : ¬ A b) (h2 : ∀ q, v.ownBlock = some q → ¬ A q) : BdV B b l v w' :=
  ⟨h.hB, h.row.imp (fun k => hf.row k h1) (fun k => hf.row k h1), hf.own h.own h2⟩
theorem bdV_new {w : World} {B b : Nat} (hB : B ≤ b) (h : RowIn #[.pointer none, .slice none 0 0] 86 w b) : BdV B b [] (.slice none 0 0) w := ⟨hB, .inl h, World.ownsRow_nil _ _ _ _⟩
theorem copyCheckV (B b : Nat) (l : List UInt8) (v : Value) (w : World) (h : BdV B b l v w) :
    Calls Tryz.prog 69 #[.pointer (some ⟨b, 0, none⟩)] w fun e w' => e = .returned (.tuple #[]) ∧ RowIn #[.pointer (some ⟨b, 0, none⟩), v] 86 w' b ∧ BdV B b l v w' ∧ OnlyS (fun k => k = b) w w' ∧ w'.heap.size = w.heap.size := by
  rcases h.row with k | k
  · refine (copyCheck_fresh b w (k.cell 0) (by unfold World.shape?; rw [k]; rfl) (k.free 0)).mono ?_
    rintro e w' ⟨rfl, rfl⟩
    have hf := onlyS_set (A := fun k => k = b) w b 0 (.pointer (some ⟨b, 0, none⟩)) rfl
    have k2 : RowIn #[.pointer (some ⟨b, 0, none⟩), v] 86 (w.setCell ⟨b, 0, none⟩ (.pointer (some ⟨b, 0, none⟩))) b := k.set 0 _
    exact ⟨rfl, k2, ⟨h.hB, .inr k2, hf.own h.own (fun q hq e => by subst e; exact h.ne hq)⟩, hf, by simp [World.setCell]⟩
  · refine (copyCheck_used b w (k.cell 0)).mono ?_
    rintro e w' ⟨rfl, rfl⟩
    exact ⟨rfl, k, h, onlyS_below (Below.refl _ _), rfl⟩
def WriteVR (B b : Nat) (l t : List UInt8) (v : Value) (w : World) (e : Ending) (w' : World) : Prop := e = .returned (.tuple #[.int .i64 t.length, .nilIface]) ∧ ∃ v', BdV B b (l ++ t) v' w' ∧ OnlyS (fun k => k = b ∨ v.ownBlock = some k) w w' ∧ (v'.ownBlock = v.ownBlock ∨ v'.ownBlock = some w.heap.size)
set_option maxHeartbeats 2000000 in
set_option maxRecDepth 100000 in
theorem writeV_any (B b : Nat) (l t : List UInt8) (v : Value) (w : World) (h : BdV B b l v w) (hlen : l.length + t.length ≤ 140737488355328) (hBw : B ≤ w.heap.size) :
    Calls Tryz.prog 45 #[.pointer (some ⟨b, 0, none⟩), .string (S t)] w fun e w' => WriteVR B b l t v w e w' := by
  obtain ⟨i0, hi, hz0, hz1, hz2⟩ := info_parts infoBt
  have hl : (Lib.byteCells l).length = l.length := by simp [Lib.byteCells]
  go_enter Tryz.func45, Tryz.ntmps45
  go_wp2_with fail
  refine (copyCheckV B b l v _ h).mono ?_
  rintro e w1 ⟨rfl, hrow, h1, hf1, hs1⟩
  have HR := Lib.hid hrow
  have HF1 := Lib.hid hf1
  have HS1 := Lib.hid hs1
  have HV := Lib.hid h1
  have c0 : w1.cell? ⟨b, 0, none⟩ = some (.pointer (some ⟨b, 0, none⟩)) := hrow.cell 0
  have c1 : w1.cell? ⟨b, 1, none⟩ = some v := hrow.cell 1
  have hown := h1.own
  clear hrow hf1 h1 hs1
  go_wp2_with (at_builtin; refine wpList_append_string_at _ rfl _ _ 84 9 rfl B 5 i0 Tryz.underlying84 Tryz.underlying9 hi hz0 hz1 hz2 _ _ _ rfl hown (S t) rfl ?c3 ?c4 ?c5 ?_)
  case c3 => unfold maxLen; simp [ByteArray.size]; omega
  case c4 => simp [ByteArray.size]; omega
  case c5 => rw [HS1.out]; exact hBw
  intro v' w2 hown' hgrow hat
  have HO := Lib.hid hown'
  have HF2 := Lib.hid (onlyS_grown (A := fun k => k = b ∨ v.ownBlock = some k) hgrow (fun q hq => .inr hq))
  have HW := Lib.hid (show v'.ownBlock = v.ownBlock ∨ v'.ownBlock = some w.heap.size from by rw [← HS1.out]; exact hat)
  have HR2 := Lib.hid (HR.out.grownP hgrow (row_apart HR.out hown (by decide)))
  clear hgrow hat hown'
  have d0 : w2.cell? ⟨b, 0, none⟩ = some (.pointer (some ⟨b, 0, none⟩)) := HR2.out.cell 0
  have d1 : w2.cell? ⟨b, 1, none⟩ = some v := HR2.out.cell 1
  have f1 : w2.frozen? ⟨b, 1, none⟩ = false := HR2.out.free 1
  obtain ⟨ao, n', cap, rfl⟩ : ∃ ao n' cap, v' = .slice ao n' cap := by
    rcases HO.out.2 with ⟨hv, _⟩ | ⟨g, cap, cur, hv, _⟩
    · exact ⟨_, _, _, hv⟩
    · exact ⟨_, _, _, hv⟩
  have hcells : Lib.byteCells (l ++ t) = Lib.byteCells l ++ Lib.strCells (S t) := by simp [Lib.byteCells, Lib.strCells]
  go_wp2
  go_ret2
  refine ⟨by simp, .slice ao n' cap, ⟨HV.out.hB, .inr (HR2.out.set 1 _), ?_⟩, ?_, HW.out⟩
  · have hne := row_apart HR2.out HO.out (by decide)
    have hf := onlyS_set (A := fun k => k = b) w2 b 1 (.slice ao n' cap) rfl
    have := hf.own HO.out (fun q hq e => hne q hq e)
    rw [hcells, List.length_append]
    simpa [ByteArray.size] using this
  · exact ((HF1.out.mono (fun k hk => .inl hk)).trans HF2.out).trans (onlyS_set _ _ _ _ (.inl rfl))
theorem onlyS_freeze {A : Nat → Prop} (w : World) (p : Addr) (n : Nat) (hp : A p.block) : OnlyS A w (w.freeze p n) := by
  unfold World.freeze
  split
  · exact onlyS_below (Below.refl _ _)
  · exact ⟨rfl, rfl, rfl, by simp, fun k hk hn => by
      simp only [Array.getElem?_modify]
      rw [if_neg (fun (e : p.block = k) => hn (by rw [← e]; exact hp))]⟩
def StringVR (l : List UInt8) (v : Value) (w : World) (e : Ending) (w' : World) : Prop := e = .returned (.string ⟨l.toArray⟩) ∧ OnlyS (fun k => v.ownBlock = some k) w w'
theorem onlyS_sameD {A : Nat → Prop} (w : World) : OnlyS A w w.drew := ⟨rfl, rfl, rfl, Nat.le_refl _, fun _ _ _ => rfl⟩
theorem unsafeS_none (W : World) (q : Option Addr) : (Builtin.unsafeString_ #[135, 3] 9 #[.pointer q, .int .i64 0]).run Tryz.prog W = .ok (.string .empty) W :=
  Lib.run_unsafeString_none W _ _ _ q
set_option maxHeartbeats 2000000 in
set_option maxRecDepth 100000 in
theorem stringV_some (b g : Nat) (p : Value) (l : List UInt8) (h0 : l ≠ []) (cap : Nat) (cur : Array Value) (w : World) (hr : RowIn #[p, .slice (some ⟨g, 0, none⟩) l.length cap] 86 w b) (hg : w.heap[g]? = some (.cells cur 5 (0, 0)))
    (hnc : l.length ≤ cap) (hcm : cap ≤ maxLen) (hcs : cur.size = cap) (hc : ∀ j u, (Lib.byteCells l)[j]? = some u → w.cell? ((⟨g, 0, none⟩ : Addr).add j) = some u) :
    Calls Tryz.prog 52 #[.pointer (some ⟨b, 0, none⟩)] w fun e w' => StringVR l (.slice (some ⟨g, 0, none⟩) l.length cap) w e w' := by
  have hl0 : l.length ≠ 0 := by simpa using h0
  have c1 : w.drew.cell? ⟨b, 1, none⟩ = some (.slice (some ⟨g, 0, none⟩) l.length cap) := RowIn.cell (w := w.drew) hr 1
  have hSD : (Builtin.unsafeSliceData_ #[84] 135 #[.slice (some ⟨g, 0, none⟩) l.length cap]).run Tryz.prog w.drew = .ok (.pointer (some ⟨g, 0, none⟩)) w.drew :=
    Lib.run_unsafeSliceData_row _ _ _ _ _ _ (by omega)
  have hUS : (Builtin.unsafeString_ #[135, 3] 9 #[.pointer (some ⟨g, 0, none⟩), .int .i64 l.length]).run Tryz.prog w.drew = .ok (.string ⟨l.toArray⟩) (w.drew.freeze ⟨g, 0, none⟩ l.length) := by
    refine Lib.run_unsafeString_row w.drew 135 3 9 5 Tryz.underlying135 (by kernel_rfl) g cur.size (by have hg' : w.drew.heap[g]? = some (.cells cur 5 (0, 0)) := hg; simp [World.shape?, hg']) l h0 (by omega) (by unfold maxLen at hcm; omega) ?_
    intro j x hx
    exact hc j (.int .u8 x.toNat) (by simp [Lib.byteCells, hx])
  have HO := Lib.hid (onlyS_freeze (A := fun k => (Value.slice (some ⟨g, 0, none⟩) l.length cap).ownBlock = some k) w.drew ⟨g, 0, none⟩ l.length rfl)
  clear hc hcs hcm hnc
  go_enter Tryz.func52, Tryz.ntmps52
  go_wp2
  go_region
  all_goals (go_wp2; go_ret; exact ⟨rfl, (onlyS_sameD w).trans HO.out⟩)
set_option maxHeartbeats 2000000 in
set_option maxRecDepth 100000 in
theorem stringV_nil (b : Nat) (p : Value) (w : World) (hr : RowIn #[p, .slice none 0 0] 86 w b) :
    Calls Tryz.prog 52 #[.pointer (some ⟨b, 0, none⟩)] w fun e w' => StringVR [] (.slice none 0 0) w e w' := by
  have hUS := unsafeS_none
  have c1 : w.drew.cell? ⟨b, 1, none⟩ = some (.slice none 0 0) := RowIn.cell (w := w.drew) hr 1
  have hSD : (Builtin.unsafeSliceData_ #[84] 135 #[.slice none 0 0]).run Tryz.prog w.drew = .ok (.pointer none) w.drew := rfl
  go_enter Tryz.func52, Tryz.ntmps52
  go_wp2
  go_region
  all_goals (go_wp2; go_ret; exact ⟨rfl, onlyS_sameD w⟩)
set_option maxHeartbeats 2000000 in
set_option maxRecDepth 100000 in
theorem stringV_room (b g : Nat) (p : Value) (cap : Nat) (h0 : cap ≠ 0) (w : World) (hr : RowIn #[p, .slice (some ⟨g, 0, none⟩) 0 cap] 86 w b) :
    Calls Tryz.prog 52 #[.pointer (some ⟨b, 0, none⟩)] w fun e w' => StringVR [] (.slice (some ⟨g, 0, none⟩) 0 cap) w e w' := by
  have hUS := unsafeS_none
  have c1 : w.drew.cell? ⟨b, 1, none⟩ = some (.slice (some ⟨g, 0, none⟩) 0 cap) := RowIn.cell (w := w.drew) hr 1
  have hSD : (Builtin.unsafeSliceData_ #[84] 135 #[.slice (some ⟨g, 0, none⟩) 0 cap]).run Tryz.prog w.drew = .ok (.pointer (some ⟨g, 0, none⟩)) w.drew :=
    Lib.run_unsafeSliceData_row _ _ _ _ _ _ h0
  clear h0
  go_enter Tryz.func52, Tryz.ntmps52
  go_wp2
  go_region
  all_goals (go_wp2; go_ret; exact ⟨rfl, onlyS_sameD w⟩)
set_option maxHeartbeats 2000000 in
set_option maxRecDepth 100000 in
theorem stringV_noroom (b g : Nat) (p : Value) (cur : Array Value) (w : World) (hr : RowIn #[p, .slice (some ⟨g, 0, none⟩) 0 0] 86 w b) (hg : w.heap[g]? = some (.cells cur 5 (0, 0))) :
    Calls Tryz.prog 52 #[.pointer (some ⟨b, 0, none⟩)] w fun e w' => StringVR [] (.slice (some ⟨g, 0, none⟩) 0 0) w e w' := by
  have hUS := unsafeS_none
  have c1 : w.drew.cell? ⟨b, 1, none⟩ = some (.slice (some ⟨g, 0, none⟩) 0 0) := RowIn.cell (w := w.drew) hr 1
  have hSD : (Builtin.unsafeSliceData_ #[84] 135 #[.slice (some ⟨g, 0, none⟩) 0 0]).run Tryz.prog w.drew = .ok (.pointer (some ⟨w.drew.heap.size, 0, none⟩)) (w.drew.alloc (.view ⟨g, 0, none⟩ 5)) :=
    Lib.run_unsafeSliceData_zero w.drew _ _ 5 Tryz.underlying135 ⟨g, 0, none⟩ 0 (5, cur.size) (by have hg' : w.drew.heap[g]? = some (.cells cur 5 (0, 0)) := hg; simp [World.shape?, hg'])
  have c2 : (w.drew.alloc (.view ⟨g, 0, none⟩ 5)).cell? ⟨b, 1, none⟩ = some (.slice (some ⟨g, 0, none⟩) 0 0) := RowIn.cell (RowIn.more (w := w.drew) hr _) 1
  have c3 : (w.alloc (.view ⟨g, 0, none⟩ 5)).drew.cell? ⟨b, 1, none⟩ = some (.slice (some ⟨g, 0, none⟩) 0 0) := c2
  have c0 : w.cell? ⟨b, 1, none⟩ = some (.slice (some ⟨g, 0, none⟩) 0 0) := c1
  have HO := Lib.hid (onlyS_below (A := fun k => (Value.slice (some ⟨g, 0, none⟩) 0 0).ownBlock = some k) ((Below.refl w.heap.size w).alloc (Nat.le_refl _) (.view ⟨g, 0, none⟩ 5)))
  go_enter Tryz.func52, Tryz.ntmps52
  go_wp2
  go_region
  all_goals (go_wp2; go_ret; exact ⟨rfl, ⟨HO.out.os, HO.out.tape, HO.out.output, HO.out.size, HO.out.block⟩⟩)
theorem stringV_any (B b : Nat) (l : List UInt8) (v : Value) (w : World) (h : BdV B b l v w) :
    Calls Tryz.prog 52 #[.pointer (some ⟨b, 0, none⟩)] w fun e w' => StringVR l v w e w' := by
  obtain ⟨p, hr⟩ : ∃ p, RowIn #[p, v] 86 w b := by rcases h.row with k | k <;> exact ⟨_, k⟩
  rcases h.own.2 with ⟨rfl, h0⟩ | ⟨g, cap, cur, rfl, hB, hg, hnc, hcm, hcs, ht⟩
  · obtain rfl : l = [] := List.eq_nil_of_length_eq_zero h0
    exact stringV_nil b p w hr
  · by_cases h0 : l = []
    · subst h0
      by_cases hc : cap = 0
      · subst hc; exact stringV_noroom b g p cur w hr hg
      · exact stringV_room b g p cap hc w hr
    · exact stringV_some b g p l h0 cap cur w hr hg hnc hcm (by simpa using hcs) (fun j u hu => h.own.cells (g := g) rfl j u hu)
/-- Two of them. -/
structure Bd2 (B b c : Nat) (l m : List UInt8) (w : World) : Prop where
  ne : b ≠ c
  two : ∃ v u, BdV B b l v w ∧ BdV B c m u w ∧ (∀ q, v.ownBlock = some q → u.ownBlock ≠ some q)
theorem Bd2.symm {B b c : Nat} {l m : List UInt8} {w : World} (h : Bd2 B b c l m w) : Bd2 B c b m l w := by
  obtain ⟨h1, v, u, h2, h3, h4⟩ := h
  exact ⟨h1.symm, u, v, h3, h2, fun q hq e => h4 q e hq⟩
theorem Bd2.below {B b c : Nat} {l m : List UInt8} {w w' : World} (h : Bd2 B b c l m w) (hb : Below w.heap.size w w') : Bd2 B b c l m w' := by
  obtain ⟨h1, v, u, h2, h3, h4⟩ := h
  exact ⟨h1, v, u, h2.below hb, h3.below hb, h4⟩
instance car_bd2 {w w' : World} {B b c : Nat} {l m : List UInt8} : Car w w' (Bd2 B b c l m w) (Bd2 B b c l m w') := ⟨fun hb h => Bd2.below h hb⟩
theorem Bd2.first {B b c : Nat} {l m : List UInt8} {w : World} (h : Bd2 B b c l m w) : BdAt B b l w := by
  obtain ⟨h1, v, u, h2, h3, h4⟩ := h
  exact h2.at_
theorem bd2_new {w : World} {B b c : Nat} (hB : B ≤ b) (hC : B ≤ c) (hne : b ≠ c) (h : RowIn #[.pointer none, .slice none 0 0] 86 w b) (k : RowIn #[.pointer none, .slice none 0 0] 86 w c) : Bd2 B b c [] [] w :=
  ⟨hne, _, _, bdV_new hB h, bdV_new hC k, fun q hq => by simp [Value.ownBlock] at hq⟩
theorem write2_any (B b c : Nat) (l m t : List UInt8) (w : World) (h : Bd2 B b c l m w) (hlen : l.length + t.length ≤ 140737488355328) (hBw : B ≤ w.heap.size) :
    Calls Tryz.prog 45 #[.pointer (some ⟨b, 0, none⟩), .string (S t)] w fun e w' => e = .returned (.tuple #[.int .i64 t.length, .nilIface]) ∧ Bd2 B b c (l ++ t) m w' ∧ Below B w w' ∧ KeptB b w w' := by
  obtain ⟨h1, v, u, h2, h3, h4⟩ := h
  refine (writeV_any B b l t v w h2 hlen hBw).mono ?_
  rintro e w' ⟨rfl, v', k1, k2, k3⟩
  have hb := k2.below (B := B) (fun k hk => hk.elim (fun e => e ▸ h2.hB) (fun e => (h2.own.lt k e).1)) hBw
  refine ⟨rfl, ⟨h1, v', u, k1, h3.only k2 (fun e => e.elim (fun e => h1 e.symm) (fun e => ?_)) (fun q hq e => e.elim (fun e => ?_) (fun e => h4 q e hq)), fun q hq e => ?_⟩, hb, fun C T g hT hg hr => k2.row hr (fun e => e.elim hg (fun e => row_apart hr h2.own hT g e rfl))⟩
  · rcases h3.row with r | r
    · exact row_apart r h2.own (by decide) c e rfl
    · exact row_apart r h2.own (by decide) c e rfl
  · subst e
    rcases h2.row with r | r
    · exact row_apart r h3.own (by decide) q hq rfl
    · exact row_apart r h3.own (by decide) q hq rfl
  · rcases k3 with k3 | k3
    · exact h4 q (k3 ▸ hq) e
    · rw [k3] at hq
      injection hq with hq
      have := (h3.own.lt q e).2
      omega

theorem string2_any (B b c : Nat) (l m : List UInt8) (w : World) (h : Bd2 B b c l m w) (hBw : B ≤ w.heap.size) :
    Calls Tryz.prog 52 #[.pointer (some ⟨b, 0, none⟩)] w fun e w' => e = .returned (.string ⟨l.toArray⟩) ∧ BdAt B c m w' ∧ Below B w w' := by
  obtain ⟨h1, v, u, h2, h3, h4⟩ := h
  refine (stringV_any B b l v w h2).mono ?_
  rintro e w' ⟨rfl, k2⟩
  refine ⟨rfl, (h3.only k2 (fun e => ?_) (fun q hq e => h4 q e hq)).at_, k2.below (fun k hk => (h2.own.lt k hk).1) hBw⟩
  rcases h3.row with r | r
  · exact row_apart r h2.own (by decide) c e rfl
  · exact row_apart r h2.own (by decide) c e rfl

end Go.Proofs.YtnhljlmelbiljaaGreat

/- Layer 10: what of a text was not read yet, by contracts. -/
namespace Go.Proofs.YtnhljlmelbiljaaGreat
set_option linter.unusedVariables false
open Go Go.RowKit
attribute [local go_sem ↓] run_index_S
attribute [local go_sem] S_append S_extract

/-- The two cells of a rest that lies at a place of a block. -/
def putR (C : Array Value) (o : Nat) (r : M.RS) : Array Value := (C.setIfInBounds o (.string (S r.t))).setIfInBounds (o + 1) (.bool r.b)
structure RsAt (C : Array Value) (T : TypeId) (b o : Nat) (r : M.RS) (w : World) : Prop where
  row : RowIn C T w b
  c0 : C[o]? = some (.string (S r.t))
  c1 : C[o + 1]? = some (.bool r.b)
  len : r.t.length ≤ 140737488351232
theorem RsAt.cell0 {C : Array Value} {T : TypeId} {b o : Nat} {r : M.RS} {w : World} (h : RsAt C T b o r w) : w.cell? ⟨b, o, none⟩ = some (.string (S r.t)) := by rw [h.row.cell, h.c0]
theorem RsAt.cell1 {C : Array Value} {T : TypeId} {b o : Nat} {r : M.RS} {w : World} (h : RsAt C T b o r w) : w.cell? ⟨b, o + 1, none⟩ = some (.bool r.b) := by rw [h.row.cell, h.c1]
theorem RsAt.put {C : Array Value} {T : TypeId} {b o : Nat} {r : M.RS} {w : World} (h : RsAt C T b o r w) (q : M.RS) (hq : q.t.length ≤ 140737488351232) {w' : World} (hr : RowIn (putR C o q) T w' b) : RsAt (putR C o q) T b o q w' := by
  have h1 := (Array.getElem?_eq_some_iff.1 h.c0).1
  have h2 := (Array.getElem?_eq_some_iff.1 h.c1).1
  refine ⟨hr, ?_, ?_, hq⟩
  · simp [putR, h1]
  · simp [putR, h2]
theorem set_same {C : Array Value} {o : Nat} {v : Value} (h : C[o]? = some v) : C.setIfInBounds o v = C := by
  apply Array.ext_getElem?
  intro i
  rw [Array.getElem?_setIfInBounds]
  by_cases e : o = i
  · subst e
    have := (Array.getElem?_eq_some_iff.1 h).1
    rw [if_pos rfl, if_pos this, h]
  · simp [e]
theorem RsAt.same {C : Array Value} {T : TypeId} {b o : Nat} {r : M.RS} {w : World} (h : RsAt C T b o r w) : putR C o r = C := by
  unfold putR
  rw [set_same h.c0, set_same h.c1]
theorem putR_bad {C : Array Value} {o : Nat} {t : List UInt8} {x : Bool} (h : C[o]? = some (.string (S t))) : C.setIfInBounds (o + 1) (.bool x) = putR C o ⟨t, x⟩ := by
  unfold putR
  rw [set_same h]
theorem putR_good {C : Array Value} {o : Nat} {t : List UInt8} (h : C[o + 1]? = some (.bool false)) : C.setIfInBounds o (.string (S t)) = putR C o ⟨t, false⟩ := by
  have k : (C.setIfInBounds o (.string (S t)))[o + 1]? = some (.bool false) := by rw [Array.getElem?_setIfInBounds, if_neg (by omega), h]
  unfold putR
  exact (set_same k).symm
/-- What a call on a rest leaves. -/
def RsR (v : Value) (C : Array Value) (T : TypeId) (b o : Nat) (q : M.RS) (w : World) (e : Ending) (w' : World) : Prop := e = .returned v ∧ RowIn (putR C o q) T w' b ∧ OnlyS (fun k => k = b) w w' ∧ w'.heap.size = w.heap.size
theorem M.cutR_len (r : M.RS) (n : Int) : (M.cutR r n).2.t.length ≤ r.t.length ∧ (M.cutR r n).1.length ≤ r.t.length := by
  unfold M.cutR
  split
  · simp; omega
  · simp
theorem M.cutR_nat {t : List UInt8} {m : Nat} (h : m ≤ t.length) : M.cutR ⟨t, false⟩ (m : Int) = (t.take m, ⟨t.drop m, false⟩) := by
  unfold M.cutR
  rw [if_pos ⟨rfl, by omega, by simp; omega⟩]
  rfl
theorem M.numR_len (r : M.RS) : (M.numR r).2.t.length ≤ r.t.length := by
  unfold M.numR
  split
  · simp
  · split
    · simp
    · simp
theorem M.numR_le (r : M.RS) : (M.numR r).1 ≤ 9223372036854775807 := by
  unfold M.numR
  cases h : M.gets r.t 0 with
  | none => simp
  | some x => obtain ⟨n, nx⟩ := x; exact (M.gets_bounds h).2.2.2.1
set_option maxHeartbeats 2000000 in
set_option maxRecDepth 100000 in
theorem cut10_any (C : Array Value) (T : TypeId) (b o : Nat) (r : M.RS) (n : Int) (w : World) (h : RsAt C T b o r w) :
    Calls Tryz.prog 75 #[.pointer (some ⟨b, o, none⟩), .int .i64 n] w fun e w' => RsR (.string (S (M.cutR r n).1)) C T b o (M.cutR r n).2 w e w' := by
  have c0 := h.cell0
  have c1 := h.cell1
  have f0 := h.row.free o
  have f1 := h.row.free (o + 1)
  have hlen := h.len
  have HO := Lib.hid (fun (v : Value) => onlyS_set (A := fun k => k = b) w b o v rfl)
  have HO1 := Lib.hid (fun (v : Value) => onlyS_set (A := fun k => k = b) w b (o + 1) v rfl)
  have HR := Lib.hid h
  clear h
  obtain ⟨t, bad⟩ := r
  simp only at c0 c1 hlen
  have HX : Hid (∀ P : Prop, (RsR (.string (S [])) C T b o ⟨t, true⟩ w (.returned (.string (S []))) (w.setCell ⟨b, o + 1, none⟩ (.bool true)))) := Lib.hid fun _ =>
    ⟨rfl, by rw [← putR_bad HR.out.c0]; exact HR.out.row.set _ _, HO1.out _, by simp [World.setCell]⟩
  cases bad with
  | true =>
    have HE : Hid (M.cutR ⟨t, true⟩ n = ([], ⟨t, true⟩)) := Lib.hid (by simp [M.cutR])
    go_enter Tryz.func75, Tryz.ntmps75
    go_wp2_with fail
    go_ret
    rw [HE.out]
    exact HX.out True
  | false =>
    by_cases h0 : n < 0
    · have q0 : decide (n < 0) = true := by simpa using h0
      have HE : Hid (M.cutR ⟨t, false⟩ n = ([], ⟨t, true⟩)) := Lib.hid (by simp [M.cutR]; omega)
      go_enter Tryz.func75, Tryz.ntmps75
      go_wp2_with fail
      go_ret
      rw [HE.out]
      exact HX.out True
    · have q0 : decide (n < 0) = false := by simp; omega
      by_cases h1 : (t.length : Int) < n
      · have q1 : decide ((t.length : Int) < n) = true := by simpa using h1
        have HE : Hid (M.cutR ⟨t, false⟩ n = ([], ⟨t, true⟩)) := Lib.hid (by simp [M.cutR]; omega)
        go_enter Tryz.func75, Tryz.ntmps75
        go_wp2_with fail
        go_ret
        rw [HE.out]
        exact HX.out True
      · have q1 : decide ((t.length : Int) < n) = false := by simp; omega
        obtain ⟨m, rfl⟩ : ∃ m : Nat, n = (m : Int) := ⟨n.toNat, by omega⟩
        have hml : m ≤ t.length := by omega
        have HE : Hid (M.cutR ⟨t, false⟩ (m : Int) = (t.take m, ⟨t.drop m, false⟩)) := Lib.hid (by simp [M.cutR]; omega)
        have k1 := run_piece_to (P := Tryz.prog) 9 Tryz.underlying9 t (m : Int) m rfl hml
        have k2 := run_piece_from (P := Tryz.prog) 9 Tryz.underlying9 t (m : Int) m rfl hml
        clear h0 h1
        go_enter Tryz.func75, Tryz.ntmps75
        go_wp2_with fail
        go_ret
        rw [HE.out]
        exact ⟨rfl, by rw [← putR_good HR.out.c1]; exact HR.out.row.set _ _, HO.out _, by simp [World.setCell]⟩

/-- A second call on what the first one left. -/
theorem RsR.at_ {v : Value} {C : Array Value} {T : TypeId} {b o : Nat} {r q : M.RS} {w w' : World} {e : Ending} (h : RsAt C T b o r w) (hq : q.t.length ≤ r.t.length) (k : RsR v C T b o q w e w') : RsAt (putR C o q) T b o q w' :=
  h.put q (by have := h.len; omega) k.2.1
theorem putR_putR (C : Array Value) (o : Nat) (q r : M.RS) : putR (putR C o q) o r = putR C o r := by
  unfold putR
  rw [Array.setIfInBounds_comm _ _ (show o + 1 ≠ o by omega) (xs := C.setIfInBounds o _), Array.setIfInBounds_setIfInBounds, Array.setIfInBounds_setIfInBounds]
set_option maxHeartbeats 2000000 in
set_option maxRecDepth 100000 in
theorem num10_any (C : Array Value) (T : TypeId) (b o : Nat) (r : M.RS) (w : World) (h : RsAt C T b o r w) :
    Calls Tryz.prog 54 #[.pointer (some ⟨b, o, none⟩)] w fun e w' => RsR (.int .i64 (M.numR r).1) C T b o (M.numR r).2 w e w' := by
  have c0 := h.cell0
  have c1 := h.cell1
  have f1 := h.row.free (o + 1)
  have CG := Lib.hid (get_any r.t 0 w (by have := h.len; omega))
  have HO1 := Lib.hid (fun (v : Value) => onlyS_set (A := fun k => k = b) w b (o + 1) v rfl)
  have HR := Lib.hid h
  have HL := Lib.hid h.len
  clear h
  obtain ⟨t, bad⟩ := r
  simp only at c0 c1 CG HL
  have HP : Hid (∀ x : Bool, RsAt (putR C o ⟨t, x⟩) T b o ⟨t, x⟩ (w.setCell ⟨b, o + 1, none⟩ (.bool x))) := Lib.hid fun x => HR.out.put ⟨t, x⟩ HL.out (by rw [← putR_bad HR.out.c0]; exact HR.out.row.set _ _)
  have CC := Lib.hid (fun (x : Bool) (n : Int) => cut10_any _ T b o ⟨t, x⟩ n _ (HP.out x))
  cases hg : M.gets t 0 with
  | none =>
    have HE := Lib.hid (show M.numR ⟨t, bad⟩ = (0, ⟨t, true⟩) from by simp [M.numR, hg])
    have HC := Lib.hid (show M.cutR ⟨t, true⟩ 0 = ([], ⟨t, true⟩) from by simp [M.cutR])
    rw [hg] at CG
    simp only [tri] at CG
    clear hg
    go_enter Tryz.func54, Tryz.ntmps54
    go_wp2_with fail
    with_reducible refine (CG.out).mono ?_
    rintro e w1 ⟨rfl, rfl⟩
    cases bad
    all_goals
      go_wp2_with fail
      with_reducible refine (CC.out true 0).mono ?_
      rintro e w2 ⟨rfl, h2, h3, h4⟩
      have H2 := Lib.hid h2
      have H3 := Lib.hid h3
      have H4 := Lib.hid h4
      clear h2 h3 h4
      go_wp2_with fail
      go_ret
      rw [HE.out]
      refine ⟨rfl, ?_, (HO1.out _).trans H3.out, by rw [H4.out]; simp [World.setCell]⟩
      have := H2.out
      rw [HC.out, putR_putR] at this
      exact this
  | some x =>
    obtain ⟨n, nx⟩ := x
    have hnx : nx ≤ t.length := (M.gets_bounds hg).2.2.1
    have HE := Lib.hid (show M.numR ⟨t, bad⟩ = (n, (M.cutR ⟨t, bad⟩ (nx : Int)).2) from by
      unfold M.numR
      simp only [hg]
      cases bad
      · rw [M.cutR_nat hnx]; rfl
      · simp [M.cutR])
    rw [hg] at CG
    simp only [tri] at CG
    clear hg
    go_enter Tryz.func54, Tryz.ntmps54
    go_wp2_with fail
    with_reducible refine (CG.out).mono ?_
    rintro e w1 ⟨rfl, rfl⟩
    cases bad
    all_goals
      go_wp2_with fail
      with_reducible refine (CC.out _ (nx : Int)).mono ?_
      rintro e w2 ⟨rfl, h2, h3, h4⟩
      have H2 := Lib.hid h2
      have H3 := Lib.hid h3
      have H4 := Lib.hid h4
      clear h2 h3 h4
      go_wp2_with fail
      go_ret
      rw [HE.out]
      refine ⟨rfl, ?_, (HO1.out _).trans H3.out, by rw [H4.out]; simp [World.setCell]⟩
      have := H2.out
      rw [putR_putR] at this
      exact this
set_option maxHeartbeats 2000000 in
set_option maxRecDepth 100000 in
theorem big10_any (C : Array Value) (T : TypeId) (b o : Nat) (r : M.RS) (w : World) (h : RsAt C T b o r w) :
    Calls Tryz.prog 53 #[.pointer (some ⟨b, o, none⟩)] w fun e w' => RsR (.int .i64 (M.bigR r).1) C T b o (M.bigR r).2 w e w' := by
  have CC := Lib.hid (cut10_any C T b o r 8 w h)
  have hl := M.cutR_len r 8
  have CG := Lib.hid (fun W => ofBig_any (M.cutR r 8).1 0 W (by have := h.len; omega))
  have HR := Lib.hid h
  have HE0 : Hid (M.bigR r = match M.ofBigs (M.cutR r 8).1 0 with
    | none => (0, ⟨(M.cutR r 8).2.t, true⟩)
    | some n => (n, (M.cutR r 8).2)) := Lib.hid rfl
  have HL := Lib.hid hl
  clear h hl
  generalize M.cutR r 8 = c at *
  obtain ⟨x, t, bad⟩ := c
  simp only at CC CG HE0 HL
  go_enter Tryz.func53, Tryz.ntmps53
  go_wp2_with fail
  with_reducible refine (CC.out).mono ?_
  rintro e w1 ⟨rfl, h2, h3, h4⟩
  have HQ := Lib.hid (HR.out.put ⟨t, bad⟩ (by have := HR.out.len; have := HL.out.1; show t.length ≤ _; omega) h2)
  have H3 := Lib.hid h3
  have H4 := Lib.hid h4
  clear h2 h3 h4
  go_wp2_with fail
  with_reducible refine (CG.out w1).mono ?_
  rintro e w2 ⟨rfl, rfl⟩
  have c1 : w1.cell? ⟨b, o + 1, none⟩ = some (.bool bad) := HQ.out.cell1
  have f1 := HQ.out.row.free (o + 1)
  have HO1 := Lib.hid (fun (v : Value) => onlyS_set (A := fun k => k = b) w1 b (o + 1) v rfl)
  have HP : Hid (∀ x : Bool, RowIn (putR C o ⟨t, x⟩) T (w1.setCell ⟨b, o + 1, none⟩ (.bool x)) b) := Lib.hid fun x => by
    have := HQ.out.row.set (o + 1) (.bool x)
    rw [putR_bad HQ.out.c0, putR_putR] at this
    exact this
  cases hg : M.ofBigs x 0 with
  | none =>
    rw [hg] at HE0
    simp only [duo]
    simp only at HE0
    clear hg
    cases bad
    all_goals
      go_wp2_with fail
      go_ret
      rw [HE0.out]
      exact ⟨rfl, HP.out true, H3.out.trans (HO1.out _), by rw [← H4.out]; simp [World.setCell]⟩
  | some n =>
    rw [hg] at HE0
    simp only [duo]
    simp only at HE0
    clear hg
    cases bad
    all_goals
      go_wp2_with fail
      go_ret
      rw [HE0.out]
      exact ⟨rfl, HP.out _, H3.out.trans (HO1.out _), by rw [← H4.out]; simp [World.setCell]⟩
set_option maxHeartbeats 2000000 in
set_option maxRecDepth 100000 in
theorem key10_any (C : Array Value) (T : TypeId) (b o : Nat) (r : M.RS) (w : World) (h : RsAt C T b o r w) :
    Calls Tryz.prog 77 #[.pointer (some ⟨b, o, none⟩)] w fun e w' => RsR (.string (S (M.keyR r).1)) C T b o (M.keyR r).2 w e w' := by
  have CN := Lib.hid (num10_any C T b o r w h)
  have hl := M.numR_len r
  have HR := Lib.hid h
  have HE : Hid (M.keyR r = M.cutR (M.numR r).2 (M.numR r).1) := Lib.hid rfl
  have CC := Lib.hid (fun W (h : RsAt (putR C o (M.numR r).2) T b o (M.numR r).2 W) => cut10_any _ T b o (M.numR r).2 ((M.numR r).1 : Int) W h)
  have HL := Lib.hid hl
  clear h hl
  generalize M.numR r = c at *
  obtain ⟨n, q⟩ := c
  simp only at CC CN HE HL
  go_enter Tryz.func77, Tryz.ntmps77
  go_wp2_with fail
  with_reducible refine (CN.out).mono ?_
  rintro e w1 ⟨rfl, h2, h3, h4⟩
  have HQ := Lib.hid (HR.out.put q (by have := HR.out.len; have := HL.out; omega) h2)
  have H3 := Lib.hid h3
  have H4 := Lib.hid h4
  clear h2 h3 h4
  go_wp2_with fail
  with_reducible refine (CC.out w1 HQ.out).mono ?_
  rintro e w2 ⟨rfl, h2, h3, h4⟩
  have H5 := Lib.hid h2
  have H6 := Lib.hid h3
  have H7 := Lib.hid h4
  clear h2 h3 h4
  go_wp2_with fail
  go_ret
  rw [HE.out]
  exact ⟨rfl, by have := H5.out; rwa [putR_putR] at this, H3.out.trans H6.out, by rw [H7.out, H4.out]⟩

end Go.Proofs.YtnhljlmelbiljaaGreat

/- Layer 10: an index' next entry, by a contract. -/
namespace Go.Proofs.YtnhljlmelbiljaaGreat
set_option linter.unusedVariables false
open Go Go.RowKit
attribute [local go_sem ↓] run_index_S
attribute [local go_sem] S_append S_extract

/-- An index that is read: its rest, and that of the blocks. -/
def idxA (x bl : M.RS) : Array Value := #[.string (S x.t), .bool x.b, .string (S bl.t), .bool bl.b]
structure IdxAt (b : Nat) (x bl : M.RS) (w : World) : Prop where
  row : RowIn (idxA x bl) 97 w b
  l1 : x.t.length ≤ 140737488351232
  l2 : bl.t.length ≤ 140737488351232
theorem IdxAt.fst {b : Nat} {x bl : M.RS} {w : World} (h : IdxAt b x bl w) : RsAt (idxA x bl) 97 b 0 x w := ⟨h.row, rfl, rfl, h.l1⟩
theorem IdxAt.snd {b : Nat} {x bl : M.RS} {w : World} (h : IdxAt b x bl w) : RsAt (idxA x bl) 97 b 2 bl w := ⟨h.row, rfl, rfl, h.l2⟩
theorem IdxAt.drew {b : Nat} {x bl : M.RS} {w : World} (h : IdxAt b x bl w) : IdxAt b x bl w.drew := ⟨h.row, h.l1, h.l2⟩
/-- A call on the one, on the other. -/
def IxR (v : Value) (b : Nat) (x bl : M.RS) (w : World) (e : Ending) (w' : World) : Prop := e = .returned v ∧ IdxAt b x bl w' ∧ OnlyS (fun k => k = b) w w' ∧ w'.heap.size = w.heap.size
theorem ix_num {b : Nat} {x bl : M.RS} {w : World} (h : IdxAt b x bl w) : Calls Tryz.prog 54 #[.pointer (some ⟨b, 0, none⟩)] w fun e w' => IxR (.int .i64 (M.numR x).1) b (M.numR x).2 bl w e w' :=
  (num10_any _ _ b 0 x w h.fst).mono fun e w' ⟨h1, h2, h3, h4⟩ => ⟨h1, ⟨h2, Nat.le_trans (M.numR_len x) h.l1, h.l2⟩, h3, h4⟩
theorem ix_key {b : Nat} {x bl : M.RS} {w : World} (h : IdxAt b x bl w) : Calls Tryz.prog 77 #[.pointer (some ⟨b, 0, none⟩)] w fun e w' => IxR (.string (S (M.keyR x).1)) b (M.keyR x).2 bl w e w' :=
  (key10_any _ _ b 0 x w h.fst).mono fun e w' ⟨h1, h2, h3, h4⟩ => ⟨h1, ⟨h2, Nat.le_trans (M.cutR_len _ _).1 (Nat.le_trans (M.numR_len x) h.l1), h.l2⟩, h3, h4⟩
theorem ix_cut {b : Nat} {x bl : M.RS} {w : World} (h : IdxAt b x bl w) (n : Int) : Calls Tryz.prog 75 #[.pointer (some ⟨b, 2, none⟩), .int .i64 n] w fun e w' => IxR (.string (S (M.cutR bl n).1)) b x (M.cutR bl n).2 w e w' :=
  (cut10_any _ _ b 2 bl n w h.snd).mono fun e w' ⟨h1, h2, h3, h4⟩ => ⟨h1, ⟨h2, h.l1, Nat.le_trans (M.cutR_len bl n).1 h.l2⟩, h3, h4⟩
def EntR10 (t : M.Ent) (b : Nat) (w : World) (e : Ending) (w' : World) : Prop := e = .returned (.tuple #[.string (S t.first), .string (S t.block), .bool (!t.x.b && !t.bl.b)]) ∧ IdxAt b t.x t.bl w' ∧ OnlyS (fun k => k = b) w w' ∧ w'.heap.size = w.heap.size
theorem onlyS_drew {A : Nat → Prop} {w w' : World} (h : OnlyS A w.drew w') : OnlyS A w w' := ⟨h.os, h.tape, h.output, h.size, h.block⟩
set_option maxHeartbeats 2000000 in
set_option maxRecDepth 100000 in
theorem entry10_any (b : Nat) (x bl : M.RS) (w : World) (h : IdxAt b x bl w) :
    Calls Tryz.prog 55 #[.pointer (some ⟨b, 0, none⟩)] w fun e w' => EntR10 (M.entR x bl) b w e w' := by
  have CK := Lib.hid (ix_key h)
  have CN := Lib.hid (fun W (h : IdxAt b (M.keyR x).2 bl W) => ix_num h)
  have CC := Lib.hid (fun W (h : IdxAt b (M.numR (M.keyR x).2).2 bl W) => ix_cut h ((M.numR (M.keyR x).2).1 : Int))
  have CD := Lib.hid (fun W (h : IdxAt b (M.numR (M.keyR x).2).2 (M.cutR bl (M.numR (M.keyR x).2).1).2 W) => ix_cut h 4)
  have HE : Hid (M.entR x bl = ⟨(M.keyR x).1, (M.cutR bl (M.numR (M.keyR x).2).1).1, (M.numR (M.keyR x).2).2, (M.cutR (M.cutR bl (M.numR (M.keyR x).2).1).2 4).2⟩) := Lib.hid rfl
  rw [HE.out]
  clear HE
  generalize M.keyR x = k at *
  generalize M.numR k.2 = m at *
  generalize M.cutR bl (m.1 : Int) = c at *
  generalize M.cutR c.2 4 = d at *
  obtain ⟨k1, k2⟩ := k
  obtain ⟨m1, m2⟩ := m
  obtain ⟨c1, c2⟩ := c
  obtain ⟨d1, d2⟩ := d
  simp only at CK CN CC CD
  clear h
  go_enter Tryz.func55, Tryz.ntmps55
  go_wp2_with fail
  with_reducible refine (CK.out).mono ?_
  rintro e w1 ⟨rfl, h1, h2, h3⟩
  have H1 := Lib.hid h1
  have H2 := Lib.hid h2
  have H3 := Lib.hid h3
  clear h1 h2 h3
  go_wp2_with fail
  go_region_with (first
    | (go_at_call 54; (with_reducible refine (CN.out _ H1.out.drew).mono ?_); rintro e w2 ⟨rfl, h1, h2, h3⟩; have H4 := Lib.hid h1; have H5 := Lib.hid (onlyS_drew h2); have H6 := Lib.hid h3; clear h1 h2 h3)
    | (go_at_call 75; (with_reducible refine (CC.out _ H4.out).mono ?_); rintro e w3 ⟨rfl, h1, h2, h3⟩; have H7 := Lib.hid h1; have H8 := Lib.hid h2; have H9 := Lib.hid h3; clear h1 h2 h3))
  go_wp2_with fail
  with_reducible refine (CD.out _ H7.out).mono ?_
  rintro e w4 ⟨rfl, h1, h2, h3⟩
  have H10 := Lib.hid h1
  have H11 := Lib.hid (((H2.out.trans H5.out).trans H8.out).trans h2)
  have H12 := Lib.hid (show w4.heap.size = w.heap.size from by rw [h3, H9.out, H6.out]; exact H3.out)
  clear h1 h2 h3
  have y1 : w4.cell? ⟨b, 1, none⟩ = some (.bool m2.b) := H10.out.fst.cell1
  have y3 : w4.cell? ⟨b, 3, none⟩ = some (.bool d2.b) := H10.out.snd.cell1
  obtain ⟨mt, mb⟩ := m2
  obtain ⟨dt, db⟩ := d2
  simp only at y1 y3
  cases mb <;> cases db
  all_goals
    go_wp2_with fail
    go_quiet (fail)
    go_wp2_with fail
    go_ret3
    exact ⟨rfl, ⟨H10.out.row, H10.out.l1, H10.out.l2⟩, ⟨H11.out.os, H11.out.tape, H11.out.output, H11.out.size, H11.out.block⟩, H12.out⟩

end Go.Proofs.YtnhljlmelbiljaaGreat

/- Layer 10: the text of a table, by a contract. -/
namespace Go.Proofs.YtnhljlmelbiljaaGreat
set_option linter.unusedVariables false
open Go Go.RowKit
attribute [local go_sem ↓] run_index_S
attribute [local go_sem] S_append S_extract

/-- A piece of a row of cells. -/
def pieceC (L : List M.Cl) (i j : Nat) : List M.Cl := (L.drop i).take (j - i)
theorem pieceC_len (L : List M.Cl) {i j : Nat} (h1 : i ≤ j) (h2 : j ≤ L.length) : (pieceC L i j).length = j - i := by simp [pieceC]; omega
theorem pieceC_get (L : List M.Cl) {i j n : Nat} (hn : n < j - i) : (pieceC L i j).getD n M.cl0 = L.getD (i + n) M.cl0 := by
  simp [pieceC, List.getD, hn]
theorem pieceC_blk (L : List M.Cl) (k : Nat) : pieceC L (4 * k) (4 * k + 4) = M.blk L k := by
  rw [pieceC, M.blk, show 4 * k + 4 - 4 * k = 4 from by omega]
theorem pieceC_blk' (L : List M.Cl) (k : Nat) (h : L.length ≤ 4 * k + 4) : pieceC L (4 * k) L.length = M.blk L k := by
  rw [pieceC, M.blk, List.take_of_length_le (by simp), List.take_of_length_le (by simp; omega)]
theorem sizeCl10 (w : World) : (sizeOf (Tryz.prog.elem 22)).run Tryz.prog w = .ok 3 w := by kernel_rfl
theorem elemCl10 : Tryz.prog.elem 22 = 38 := by kernel_rfl
theorem cut_cells (L : List M.Cl) (ao : Option Addr) (cap i j : Nat) (h1 : i ≤ j) (h2 : j ≤ L.length) (h3 : L.length ≤ cap) : ∃ ao' : Option Addr,
    (∀ (w : World) (k k' : IntKind), (Instr.slice 22 (.slice ao L.length cap) (some (.int k (i : Int))) (some (.int k' (j : Int))) none).run Tryz.prog w = .ok (.slice ao' (pieceC L i j).length (cap - i)) w) ∧
    (∀ w : World, ClsAt w ao L → ClsAt w ao' (pieceC L i j)) := by
  refine ⟨if cap = i then ao else ao.map (·.add (i * 3)), fun w k k' => ?_, fun w h => ?_⟩
  · rw [run_slice_lh w 22 ao L.length cap (by rw [elemCl10]; exact Tryz.underlying22) k k' _ _ (by omega) (by omega) (by omega), sizeCl10]
    simp only [Result.andThen, sliced, Int.toNat_natCast]
    rw [pieceC_len L h1 h2]
  · intro hne
    have hl : 0 < (pieceC L i j).length := List.length_pos_iff.2 hne
    rw [pieceC_len L h1 h2] at hl
    have hL : L ≠ [] := fun e => by rw [e] at h2; simp at h2; omega
    obtain ⟨g, off, rfl, hc⟩ := h hL
    rw [if_neg (by omega)]
    refine ⟨g, off + i * 3, by simp [Addr.add_lit], fun n hn => ?_⟩
    rw [pieceC_len L h1 h2] at hn
    rw [pieceC_get L hn]
    have := hc (i + n) (by omega)
    rwa [show off + (i + n) * 3 = off + i * 3 + n * 3 from by omega] at this
theorem cut_blk (L : List M.Cl) (ao : Option Addr) (cap k i j : Nat) (hi : i = 4 * k) (hj : j = min (i + 4) L.length) (hlt : i < L.length) (h3 : L.length ≤ cap) : ∃ (ao' : Option Addr) (cp : Nat),
    (∀ (w : World) (kk k' : IntKind), (Instr.slice 22 (.slice ao L.length cap) (some (.int kk (i : Int))) (some (.int k' (j : Int))) none).run Tryz.prog w = .ok (.slice ao' (M.blk L k).length cp) w) ∧
    (∀ w : World, ClsAt w ao L → ClsAt w ao' (M.blk L k)) := by
  obtain ⟨ao', h1, h2⟩ := cut_cells L ao cap i j (by omega) (by omega) h3
  have e : pieceC L i j = M.blk L k := by
    subst hi
    by_cases h : 4 * k + 4 ≤ L.length
    · rw [hj, Nat.min_eq_left h]; exact pieceC_blk L k
    · rw [hj, Nat.min_eq_right (by omega)]; exact pieceC_blk' L k (by omega)
  rw [e] at h1 h2
  exact ⟨ao', cap - i, h1, h2⟩
set_option maxHeartbeats 2000000 in
set_option maxRecDepth 100000 in
theorem withSum_any (l : List UInt8) (hl : l.length ≤ 140737488351232) (w : World) :
    Calls Tryz.prog 48 #[.string (S l)] w fun e w' => e = .returned (.string (S (M.wsum l))) ∧ Below w.heap.size w w' := by
  have C1 := Lib.hid (sum0_any l (by omega) w)
  have C2 := Lib.hid (fun W => bytes_any (M.sumP l) (M.sumP_lt l) W)
  have HWS : Hid (M.wsum l = l ++ M.big 4 (M.sumP l)) := Lib.hid rfl
  have hbl : (M.big 4 (M.sumP l)).length ≤ 4 := by rw [M.big_length]; omega
  rw [HWS.out]
  clear HWS
  generalize M.big 4 (M.sumP l) = q at *
  go_enter Tryz.func48, Tryz.ntmps48
  go_wp2_with fail
  with_reducible refine (C1.out).mono ?_
  rintro e w1 ⟨rfl, hb1⟩
  have HB := Lib.hid hb1
  clear hb1
  go_wp2_with fail
  with_reducible refine (C2.out w1).mono ?_
  rintro e w2 ⟨rfl, hb1⟩
  replace HB := carry hb1 HB
  clear hb1
  go_wp2_with fail
  go_ret
  exact ⟨rfl, HB.out⟩
/-- What Build comes to. -/
def bE (L : List M.Cl) : Value := if M.srt none L = false then .tuple #[.string ⟨#[]⟩, .int .i64 2] else if 4096 < L.length then .tuple #[.string ⟨#[]⟩, .int .i64 3] else .tuple #[.string (S (M.tableT L)), .int .i64 0]
theorem bE_no {L : List M.Cl} (h : M.srt none L = false) : bE L = .tuple #[.string ⟨#[]⟩, .int .i64 2] := by rw [bE, if_pos h]
theorem bE_long {L : List M.Cl} (h : M.srt none L = true) (k : 4096 < L.length) : bE L = .tuple #[.string ⟨#[]⟩, .int .i64 3] := by rw [bE, if_neg (by rw [h]; decide), if_pos k]
theorem bE_ok {L : List M.Cl} (h : M.srt none L = true) (k : ¬ 4096 < L.length) : bE L = .tuple #[.string (S (M.tableT L)), .int .i64 0] := by rw [bE, if_neg (by rw [h]; decide), if_neg k]
def BuildR (L : List M.Cl) (w : World) (e : Ending) (w' : World) : Prop := e = .returned (bE L) ∧ Below w.heap.size w w'

set_option maxHeartbeats 4000000 in
set_option maxRecDepth 100000 in
theorem build10_any (L : List M.Cl) (hl : L.length ≤ 1000000) (ao : Option Addr) (cap : Nat) (hcap : L.length ≤ cap) (w : World) (hC : ClsAt w ao L) (hv : ∀ c ∈ L, ClOk c) :
    Calls Tryz.prog 23 #[.slice ao L.length cap] w fun e w' => BuildR L w e w' := by
  have HC := Lib.hid hC
  have HV := Lib.hid hv
  have CS := Lib.hid (sorted9_any L hl ao cap w hC hv)
  have HCAP := Lib.hid hcap
  clear hC hv hcap
  go_enter Tryz.func23, Tryz.ntmps23
  go_wp2_with fail
  with_reducible refine (CS.out).mono ?_
  rintro e w1 ⟨rfl, hb⟩
  have HB := Lib.hid hb
  clear hb CS
  cases hs : M.srt none L with
  | false =>
    have HS := Lib.hid hs
    clear hs
    go_wp2_with fail
    go_ret2
    exact ⟨by rw [bE_no HS.out]; rfl, HB.out⟩
  | true =>
    have HS := Lib.hid hs
    clear hs
    by_cases hL : 4096 < L.length
    · have q0 : decide ((4096 : Int) < (L.length : Int)) = true := by simp; omega
      go_wp2_with fail
      go_ret2
      exact ⟨by rw [bE_long HS.out hL]; rfl, HB.out⟩
    have q0 : decide ((4096 : Int) < (L.length : Int)) = false := by simp; omega
    have HM := Lib.hid (M.srt_may HS.out)
    have HWS := Lib.hid HB.out.size
    have HT := Lib.hid (bd2_new (w := (w1.alloc (.cells #[.pointer none, .slice none 0 0] 86)).alloc (.cells #[.pointer none, .slice none 0 0] 86)) (B := w1.heap.size) (b := w1.heap.size) (c := w1.heap.size + 1) (Nat.le_refl _) (Nat.le_succ _) (by omega) ((rowIn_new _ _ w1).more _) (rowIn_at _ _ _ _ (by rw [szA])))
    replace HB := carryA (w := w1) (.cells #[.pointer none, .slice none 0 0] 86) HB
    replace HB := carryA (w := w1.alloc (.cells #[.pointer none, .slice none 0 0] 86)) (.cells #[.pointer none, .slice none 0 0] 86) HB
    have hmany : ((L.length : Int) + 4 - 1).tdiv 4 = ((M.many L : Nat) : Int) := by unfold M.many; rw [Int.tdiv_eq_ediv_of_nonneg (by omega)]; omega
    have hmb : M.many L ≤ 1024 := by unfold M.many; omega
    have hlb := hL
    go_wp2_with fail
    with_reducible refine (put_nat (M.many L) _ (by omega)).mono ?_
    rintro e w2 ⟨rfl, hb2⟩
    replace HB := carry hb2 HB
    replace HT := carry hb2 HT
    have HSZ := Lib.hid (show w1.heap.size ≤ w2.heap.size from Nat.le_trans (by rw [szA, szA]; omega) hb2.size)
    clear hb2
    have hpl := (M.putN_length (M.many L)).2
    go_wp2_with fail
    with_reducible refine (write2_any w1.heap.size (w1.heap.size + 1) w1.heap.size [] [] (M.putN (M.many L)) w2 HT.out.symm (by simp; omega) HSZ.out).mono ?_
    rintro e w3 ⟨rfl, h3, hb3, -⟩
    rw [List.nil_append] at h3
    replace HT := Lib.hid h3.symm
    replace HB := Lib.hid (HB.out.trans (hb3.mono HWS.out))
    replace HSZ := Lib.hid (Nat.le_trans HSZ.out hb3.size)
    clear h3 hb3
    go_wp2_with fail
    go_loopw [6] (fun v wr => ∃ k i : Nat, k ≤ M.many L ∧ Hid (i = 4 * k) ∧ v = .int .i64 i ∧ Hid (Bd2 w1.heap.size w1.heap.size (w1.heap.size + 1) (M.bodyS k L) (M.putN (M.many L) ++ M.idxS k L) wr ∧ Below w.heap.size w wr ∧ w1.heap.size ≤ wr.heap.size)) (fun v _ => L.length + 4 - (intOf v).toNat)
    case atStart => exact ⟨0, 0, Nat.zero_le _, Lib.hid rfl, rfl, Lib.hid ⟨by simpa [M.bodyS, M.idxS] using HT.out, HB.out, HSZ.out⟩⟩
    case round =>
      clear HT HB HSZ
      obtain ⟨k, i, hk, HI, rfl, HH⟩ := hrel
      by_cases hlt : i < L.length
      · have hd : decide ((i : Int) < (L.length : Int)) = true := by simp; omega
        obtain ⟨j, hj⟩ : ∃ j, j = min (i + 4) L.length := ⟨_, rfl⟩
        obtain ⟨ao', cp, hrun, hcls⟩ := cut_blk L ao cap k i j HI.out hj hlt HCAP.out
        have HBC := Lib.hid (hcls wr (HC.out.below HH.out.2.1))
        have CE := Lib.hid (encode9_any (M.blk L k) (by have := M.blk_len4 L k; omega) ao' cp wr HBC.out (fun c hc => HV.out c (M.blk_mem hc)))
        unfold EncR at CE
        rw [M.srt_blk HS.out k] at CE
        simp only [if_true] at CE
        have hel := M.encCs_len (M.srt_blk HS.out k) (M.blk_len4 L k)
        have HBS := Lib.hid (show M.bodyS (k + 1) L = M.bodyS k L ++ M.wsum (M.encCs (M.blk L k)) from M.bodyS_snoc k L)
        have HIS := Lib.hid (show M.idxS (k + 1) L = M.idxS k L ++ (M.putT (L.getD i M.cl0).key ++ M.putN (M.encCs (M.blk L k)).length) from by rw [HI.out]; exact M.idxS_snoc k L)
        have hbl := M.body_len HS.out k
        have hil := M.idx_len HS.out k
        have hkl := M.key_len HS.out i
        have hwl := M.wsum_len (M.encCs (M.blk L k))
        have HWL := Lib.hid hwl
        clear hwl
        obtain ⟨g, off, rfl, hc⟩ := HC.out.off i hlt
        have HCL := Lib.hid hc
        have HMIN := Lib.hid hj
        have hj1 : j ≤ L.length := by omega
        have hj2 : i < j := by omega
        have hmin : min ((i : Int) + 4) (L.length : Int) = (j : Int) := by omega
        clear hj hc
        generalize L.getD i M.cl0 = c at *
        generalize M.blk L k = bk at *
        generalize M.encCs bk = eb at *
        generalize M.bodyS k L = bs at *
        generalize M.idxS k L = is at *
        go_wp2_with fail
        with_reducible refine (CE.out).mono ?_
        rintro e w4 ⟨rfl, hb4⟩
        replace HH := Lib.hid (⟨HH.out.1.below hb4, below_step HH.out.2.1 hb4, Nat.le_trans HH.out.2.2 hb4.size⟩ : Bd2 w1.heap.size w1.heap.size (w1.heap.size + 1) bs (M.putN (M.many L) ++ is) w4 ∧ Below w.heap.size w w4 ∧ w1.heap.size ≤ w4.heap.size)
        clear hb4 hrun hcls HBC CE
        go_wp2_with fail
        with_reducible refine (withSum_any eb (by omega) w4).mono ?_
        rintro e w5 ⟨rfl, hb4⟩
        replace HH := Lib.hid (⟨HH.out.1.below hb4, below_step HH.out.2.1 hb4, Nat.le_trans HH.out.2.2 hb4.size⟩ : Bd2 w1.heap.size w1.heap.size (w1.heap.size + 1) bs (M.putN (M.many L) ++ is) w5 ∧ Below w.heap.size w w5 ∧ w1.heap.size ≤ w5.heap.size)
        clear hb4
        go_wp2_with fail
        with_reducible refine (write2_any w1.heap.size w1.heap.size (w1.heap.size + 1) bs (M.putN (M.many L) ++ is) (M.wsum eb) w5 HH.out.1 (by rw [HWL.out]; omega) HH.out.2.2).mono ?_
        rintro e w6 ⟨rfl, h6, hb6, -⟩
        replace HH := Lib.hid (⟨h6, HH.out.2.1.trans (hb6.mono HWS.out), Nat.le_trans HH.out.2.2 hb6.size⟩ : Bd2 w1.heap.size w1.heap.size (w1.heap.size + 1) (bs ++ M.wsum eb) (M.putN (M.many L) ++ is) w6 ∧ Below w.heap.size w w6 ∧ w1.heap.size ≤ w6.heap.size)
        clear h6 hb6
        obtain ⟨x0, -, -⟩ := HCL.out.below HH.out.2.1
        have hii : (i : Int) < (L.length : Int) := by omega
        go_wp2_with fail
        with_reducible refine (putText_any c.key w6 (by omega)).mono ?_
        rintro e w7 ⟨rfl, hb4⟩
        replace HH := Lib.hid (⟨HH.out.1.below hb4, below_step HH.out.2.1 hb4, Nat.le_trans HH.out.2.2 hb4.size⟩ : Bd2 w1.heap.size w1.heap.size (w1.heap.size + 1) (bs ++ M.wsum eb) (M.putN (M.many L) ++ is) w7 ∧ Below w.heap.size w w7 ∧ w1.heap.size ≤ w7.heap.size)
        clear hb4 x0
        go_wp2_with fail
        with_reducible refine (put_nat eb.length w7 (by omega)).mono ?_
        rintro e w8 ⟨rfl, hb4⟩
        replace HH := Lib.hid (⟨HH.out.1.below hb4, below_step HH.out.2.1 hb4, Nat.le_trans HH.out.2.2 hb4.size⟩ : Bd2 w1.heap.size w1.heap.size (w1.heap.size + 1) (bs ++ M.wsum eb) (M.putN (M.many L) ++ is) w8 ∧ Below w.heap.size w w8 ∧ w1.heap.size ≤ w8.heap.size)
        clear hb4
        have hp1 := (M.putN_length c.key.length).2
        have hp2 := (M.putN_length eb.length).2
        have HIS2 := Lib.hid (show M.idxS (k + 1) L = is ++ ((M.putN c.key.length ++ c.key) ++ M.putN eb.length) from HIS.out)
        clear HIS
        generalize M.putN c.key.length = e1 at *
        generalize M.putN eb.length = e2 at *
        go_wp2_with fail
        with_reducible refine (write2_any w1.heap.size (w1.heap.size + 1) w1.heap.size (M.putN (M.many L) ++ is) (bs ++ M.wsum eb) _ w8 HH.out.1.symm (by simp only [List.length_append]; omega) HH.out.2.2).mono ?_
        rintro e w9 ⟨rfl, h6, hb6, -⟩
        have HH9 := Lib.hid (⟨by have h7 := h6.symm; rw [HBS.out, HIS2.out]; simpa only [List.append_assoc] using h7, HH.out.2.1.trans (hb6.mono HWS.out), Nat.le_trans HH.out.2.2 hb6.size⟩ : Bd2 w1.heap.size w1.heap.size (w1.heap.size + 1) (M.bodyS (k + 1) L) (M.putN (M.many L) ++ M.idxS (k + 1) L) w9 ∧ Below w.heap.size w w9 ∧ w1.heap.size ≤ w9.heap.size)
        clear h6 hb6 HH
        have HK1 := Lib.hid (show k + 1 ≤ M.many L from by have := HI.out; unfold M.many; omega)
        go_wp2_with fail
        go_roundw
        case rel => exact ⟨k + 1, i + 4, HK1.out, Lib.hid (by rw [HI.out]; omega), by go_num, HH9⟩
        case measure => simp [intOf]; omega
      · have hd : decide ((i : Int) < (L.length : Int)) = false := by simp; omega
        obtain rfl : k = M.many L := by have := HI.out; unfold M.many at *; omega
        have HBL := Lib.hid (M.body_len HS.out (M.many L))
        have HIL := Lib.hid (M.idx_len HS.out (M.many L))
        have HTT := Lib.hid (show M.tableT L = M.bodyS (M.many L) L ++ M.wsum (M.putN (M.many L) ++ M.idxS (M.many L) L) ++ (M.bigN (M.bodyS (M.many L) L).length ++ M.bigN L.length ++ M.spoorT) from rfl)
        have HBE := Lib.hid (bE_ok HS.out hL)
        have hbl := HBL.out
        have hil := HIL.out
        clear HBL HIL
        have HF := Lib.hid (HH.out.1.first)
        have HBc : Hid ((Lib.byteCells (M.bodyS (M.many L) L)).length = (M.bodyS (M.many L) L).length) := Lib.hid (by simp [Lib.byteCells])
        have CL := Lib.hid (Tryz.Builder_Len w1.heap.size w1.heap.size (Lib.byteCells (M.bodyS (M.many L) L)) wr HF.out)
        rw [HBc.out] at CL
        have hwl := M.wsum_len (M.putN (M.many L) ++ M.idxS (M.many L) L)
        rw [List.length_append] at hwl
        have HWL := Lib.hid hwl
        clear hwl HBc
        generalize M.bodyS (M.many L) L = bs at *
        generalize M.idxS (M.many L) L = is at *
        go_wp2_with fail
        with_reducible refine (CL.out).mono ?_
        rintro e w4 ⟨rfl, rfl⟩
        clear CL HF
        go_wp2_with fail
        with_reducible refine (big_nat bs.length w4 (by omega)).mono ?_
        rintro e w5 ⟨rfl, hb4⟩
        replace HH := Lib.hid (⟨HH.out.1.below hb4, below_step HH.out.2.1 hb4, Nat.le_trans HH.out.2.2 hb4.size⟩ : Bd2 w1.heap.size w1.heap.size (w1.heap.size + 1) bs (M.putN (M.many L) ++ is) w5 ∧ Below w.heap.size w w5 ∧ w1.heap.size ≤ w5.heap.size)
        clear hb4
        go_wp2_with fail
        with_reducible refine (big_nat L.length w5 (by omega)).mono ?_
        rintro e w6 ⟨rfl, hb4⟩
        replace HH := Lib.hid (⟨HH.out.1.below hb4, below_step HH.out.2.1 hb4, Nat.le_trans HH.out.2.2 hb4.size⟩ : Bd2 w1.heap.size w1.heap.size (w1.heap.size + 1) bs (M.putN (M.many L) ++ is) w6 ∧ Below w.heap.size w w6 ∧ w1.heap.size ≤ w6.heap.size)
        clear hb4
        have hg1 : (M.bigN bs.length).length ≤ 8 := by rw [M.bigN_length]; omega
        have hg2 : (M.bigN L.length).length ≤ 8 := by rw [M.bigN_length]; omega
        generalize M.bigN bs.length = f1 at *
        generalize M.bigN L.length = f2 at *
        go_wp2_with fail
        with_reducible refine (string2_any w1.heap.size w1.heap.size (w1.heap.size + 1) bs (M.putN (M.many L) ++ is) w6 HH.out.1 HH.out.2.2).mono ?_
        rintro e w7 ⟨rfl, h6, hb6⟩
        have HH7 := Lib.hid (⟨h6, HH.out.2.1.trans (hb6.mono HWS.out), Nat.le_trans HH.out.2.2 hb6.size⟩ : BdAt w1.heap.size (w1.heap.size + 1) (M.putN (M.many L) ++ is) w7 ∧ Below w.heap.size w w7 ∧ w1.heap.size ≤ w7.heap.size)
        clear h6 hb6 HH
        go_wp2_with fail
        with_reducible refine (bd_any HH7.out.1 HH7.out.2.2).mono ?_
        rintro e w8 ⟨rfl, hb6⟩
        have HB8 := Lib.hid (HH7.out.2.1.trans (hb6.mono HWS.out))
        clear hb6 HH7
        go_wp2_with fail
        with_reducible refine (withSum_any (M.putN (M.many L) ++ is) (by simp only [List.length_append]; omega) w8).mono ?_
        rintro e w9 ⟨rfl, hb4⟩
        have HB9 := Lib.hid (below_step HB8.out hb4)
        have hwl : (M.wsum (M.putN (M.many L) ++ is)).length ≤ 100000000 := by rw [HWL.out]; omega
        clear hb4 HB8 HWL
        generalize M.wsum (M.putN (M.many L) ++ is) = ws at *
        go_wp2_with fail
        go_ret2
        exact ⟨by rw [HBE.out, HTT.out]; simp only [List.append_assoc, M.spoorT]; rfl, HB9.out⟩

end Go.Proofs.YtnhljlmelbiljaaGreat

/- Layer 10: the table of a text, by a contract. -/
namespace Go.Proofs.YtnhljlmelbiljaaGreat
set_option linter.unusedVariables false
open Go Go.RowKit
attribute [local go_sem ↓] run_index_S
attribute [local go_sem] S_append S_extract

theorem infoSt10 : (Tryz.prog.info? 9).map (fun i => (i.zero, i.size, i.bytes)) = some (some (.string ByteArray.empty), 1, 16) := by kernel_rfl
/-- Texts as cells. -/
def txs10 (ps : List (List UInt8)) : List Value := ps.map fun p => Value.string (S p)
theorem txs10_snoc (ps : List (List UInt8)) (p : List UInt8) : txs10 (ps ++ [p]) = txs10 ps ++ [.string (S p)] := by simp [txs10]
/-- A table that is laid: of each block its bytes, and its first key. -/
structure TabRow (B p : Nat) (vB vF : Value) (Bk F : List (List UInt8)) (n : Int) (w : World) : Prop where
  row : RowIn #[vB, vF, .int .i64 n] 99 w p
  b : w.ownsRow B 9 1 vB Bk.length (txs10 Bk)
  f : w.ownsRow B 9 1 vF F.length (txs10 F)
  ne : ∀ q, vB.ownBlock = some q → vF.ownBlock ≠ some q
def TabAt (L : List M.Cl) (p : Nat) (w : World) : Prop := ∃ B vB vF, TabRow B p vB vF (M.blksB L (M.many L)) (M.firsts L (M.many L)) L.length w
theorem TabRow.below {B p : Nat} {vB vF : Value} {Bk F : List (List UInt8)} {n : Int} {w w' : World} (h : TabRow B p vB vF Bk F n w) (hb : Below w.heap.size w w') : TabRow B p vB vF Bk F n w' :=
  ⟨h.row.below hb, ownP_below h.b hb, ownP_below h.f hb, h.ne⟩
theorem TabAt.below {L : List M.Cl} {p : Nat} {w w' : World} (h : TabAt L p w) (hb : Below w.heap.size w w') : TabAt L p w' := by
  obtain ⟨B, vB, vF, h⟩ := h
  exact ⟨B, vB, vF, h.below hb⟩
instance car_tab {w w' : World} {L : List M.Cl} {p : Nat} : Car w w' (TabAt L p w) (TabAt L p w') := ⟨fun hb h => h.below hb⟩
theorem IdxAt.below {b : Nat} {x bl : M.RS} {w w' : World} (h : IdxAt b x bl w) (hb : Below w.heap.size w w') : IdxAt b x bl w' := ⟨h.row.below hb, h.l1, h.l2⟩
/-- What Open comes to. -/
def OpenR10 (t : List UInt8) (w : World) (e : Ending) (w' : World) : Prop := (match M.openT t with
  | none => e = .returned (.tuple #[.pointer none, .int .i64 30])
  | some L => ∃ p, e = .returned (.tuple #[.pointer (some ⟨p, 0, none⟩), .int .i64 0]) ∧ TabAt L p w') ∧ Below w.heap.size w w'
theorem openR10_none {t : List UInt8} {w w' : World} (h : ∀ L, ¬ M.IsT t L) (hb : Below w.heap.size w w') : OpenR10 t w (.returned (.tuple #[.pointer none, .int .i64 30])) w' := by
  unfold OpenR10
  rw [M.openT_none h]
  exact ⟨rfl, hb⟩
theorem openR10_some {t : List UInt8} {L : List M.Cl} {p : Nat} {w w' : World} (h : M.IsT t L) (ht : TabAt L p w') (hb : Below w.heap.size w w') : OpenR10 t w (.returned (.tuple #[.pointer (some ⟨p, 0, none⟩), .int .i64 0])) w' := by
  unfold OpenR10
  rw [M.openT_some h]
  exact ⟨⟨p, rfl, ht⟩, hb⟩
/-- What has been read, after so many entries. -/
structure Read10 (t : List UInt8) (k n : Nat) (x bl : M.RS) (C : List M.Cl) (Bk F : List (List UInt8)) : Prop where
  lb : Bk.length = k
  lf : F.length = k
  kx : k + x.t.length ≤ 1000000
  cl : C.length + bl.t.length ≤ 1000000
  ok : ∀ c ∈ C, ClOk c
  is : ∀ L, M.IsT t L → k + n = M.many L ∧ x = ⟨M.idxS n (L.drop (4 * k)), false⟩ ∧ bl = ⟨M.bodyS n (L.drop (4 * k)), false⟩ ∧ C = L.take (4 * k) ∧ F = M.firsts L k ∧ Bk = M.blksB L k
/-- What is read first. -/
theorem isT_len {t : List UInt8} {L : List M.Cl} (h : M.IsT t L) : 25 ≤ t.length := by
  rw [← h.t, M.tab_len]; omega
theorem M.bigR_big (n : Nat) (h : n ≤ 9223372036854775807) (z : List UInt8) : M.bigR ⟨M.bigN n ++ z, false⟩ = (n, ⟨z, false⟩) := by
  have e1 : M.cutR ⟨M.bigN n ++ z, false⟩ 8 = (M.bigN n, ⟨z, false⟩) := M.cutR_app' _ _ 8 (by rw [M.bigN_length]; rfl)
  have e2 := M.ofBigs_big [] [] n h
  simp only [List.nil_append, List.append_nil, List.length_nil] at e2
  have e0 : ((0 : Nat) : Int) = 0 := rfl
  rw [e0] at e2
  unfold M.bigR
  rw [e1]
  simp only [e2]
theorem isT_body {t : List UInt8} {L : List M.Cl} (h : M.IsT t L) : (M.bodyT L).length ≤ 1000 * 1024 := by
  have h1 := M.body_len h.s (M.many L)
  have h2 := h.n
  have : M.many L ≤ 1024 := by unfold M.many; omega
  unfold M.bodyT
  omega
theorem isT_foot {t : List UInt8} {L : List M.Cl} (h : M.IsT t L) : ∃ z, M.bigR ⟨t.drop (t.length - 21), false⟩ = ((M.bodyT L).length, ⟨z, false⟩) := by
  have h1 := isT_body h
  have e := M.tab_foot L
  rw [h.t] at e
  rw [e, M.bigR_big _ (by omega)]
  exact ⟨_, rfl⟩
theorem isT_size {t : List UInt8} {L : List M.Cl} (h : M.IsT t L) : (M.bodyT L).length ≤ t.length - 25 := by
  rw [← h.t, M.tab_len]; omega
/-- What the rests begin with. -/
theorem isT_start {t : List UInt8} {L : List M.Cl} (h : M.IsT t L) : M.numR ⟨(t.take (t.length - 25)).drop (M.bodyT L).length, false⟩ = (M.many L, ⟨M.idxS (M.many L) L, false⟩) ∧ (t.take (t.length - 25)).take (M.bodyT L).length = M.bodyS (M.many L) L := by
  have e := M.tab_body L
  rw [h.t] at e
  rw [e]
  have hm : M.many L ≤ 1025 := by have := h.n; unfold M.many; omega
  refine ⟨?_, ?_⟩
  · rw [List.drop_append_of_le_length (Nat.le_refl _), List.drop_of_length_le (Nat.le_refl _), List.nil_append, M.idxT, M.numR_put _ (by omega)]
  · rw [List.take_append_of_le_length (Nat.le_refl _), List.take_of_length_le (Nat.le_refl _)]; rfl
theorem M.numR_lt {r : M.RS} (h : (M.numR r).2.b = false) : (M.numR r).2.t.length + 1 ≤ r.t.length ∧ r.b = false := by
  obtain ⟨t, b⟩ := r
  unfold M.numR at h ⊢
  cases hg : M.gets t 0 with
  | none => simp [hg] at h
  | some x =>
    obtain ⟨n, nx⟩ := x
    simp only [hg] at h ⊢
    obtain ⟨g1, g2, g3, _⟩ := M.gets_bounds hg
    cases b with
    | true => simp at h
    | false => simp; omega
theorem M.cutR_ok {r : M.RS} {n : Int} (h : (M.cutR r n).2.b = false) : (M.cutR r n).1.length + (M.cutR r n).2.t.length = r.t.length ∧ r.b = false := by
  unfold M.cutR at h ⊢
  split at h
  · rename_i hc
    rw [if_pos hc]
    refine ⟨?_, hc.1⟩
    simp only [List.length_take, List.length_drop]
    omega
  · cases h
theorem M.entR_len {x bl x' bl' : M.RS} {fs bk : List UInt8} (he : M.entR x bl = ⟨fs, bk, x', bl'⟩) (hx : x'.b = false) (hb : bl'.b = false) : x'.t.length + 1 ≤ x.t.length ∧ bk.length + bl'.t.length ≤ bl.t.length := by
  unfold M.entR at he
  injection he with h1 h2 h3 h4
  subst h1 h2 h3 h4
  obtain ⟨a1, a2⟩ := M.numR_lt hx
  unfold M.keyR at a1 a2
  obtain ⟨b1, b2⟩ := M.cutR_ok a2
  have b3 := M.numR_len x
  obtain ⟨c1, c2⟩ := M.cutR_ok hb
  obtain ⟨d1, d2⟩ := M.cutR_ok c2
  unfold M.keyR at *
  constructor <;> omega
theorem Read10.step {t : List UInt8} {k n : Nat} {x bl x' bl' : M.RS} {C Ln : List M.Cl} {Bk F : List (List UInt8)} {fs bk : List UInt8} (h : Read10 t k (n + 1) x bl C Bk F) (he : M.entR x bl = ⟨fs, bk, x', bl'⟩) (hx : x'.b = false) (hb : bl'.b = false) (hd : M.decC bk = some Ln) :
    Read10 t (k + 1) n x' bl' (C ++ Ln) (Bk ++ [bk]) (F ++ [fs]) := by
  obtain ⟨e1, e2⟩ := M.entR_len he hx hb
  have e3 := M.decC_len hd
  obtain ⟨o1, -, -⟩ := decC_oks hd
  refine ⟨by simp [h.lb], by simp [h.lf], by have := h.kx; omega, by have := h.cl; simp only [List.length_append]; omega, fun c hc => ?_, fun L hL => ?_⟩
  · rcases List.mem_append.1 hc with hc | hc
    · exact h.ok c hc
    · exact o1 c hc
  · obtain ⟨i1, rfl, rfl, i4, i5, i6⟩ := h.is L hL
    rw [M.entR_is (M.srt_drop hL.s _) n] at he
    injection he with h1 h2 h3 h4
    have hdr : (L.drop (4 * k)).drop 4 = L.drop (4 * (k + 1)) := by rw [List.drop_drop]; congr 1
    rw [hdr] at h3 h4
    have hbk : M.encCs (M.blk L k) = bk := h2
    have hLn : Ln = M.blk L k := by
      have := M.dec_encC (M.srt_blk hL.s k) (fun c hc => hL.q c (M.blk_mem hc)) (by have := M.blk_len4 L k; omega)
      rw [hbk, hd] at this
      injection this
    refine ⟨by omega, h3.symm, h4.symm, by rw [i4, hLn, M.take_blk], ?_, by rw [i6, M.blksB_snoc, hbk]⟩
    rw [i5, M.firsts_snoc, ← h1]
    simp [List.getD]
theorem Read10.bad {t : List UInt8} {k n : Nat} {x bl x' bl' : M.RS} {C : List M.Cl} {Bk F : List (List UInt8)} {fs bk : List UInt8} (h : Read10 t k (n + 1) x bl C Bk F) (he : M.entR x bl = ⟨fs, bk, x', bl'⟩) (hbad : x'.b = true ∨ bl'.b = true ∨ M.decC bk = none) :
    ∀ L, ¬ M.IsT t L := fun L hL => by
  obtain ⟨i1, rfl, rfl, i4, i5, i6⟩ := h.is L hL
  rw [M.entR_is (M.srt_drop hL.s _) n] at he
  injection he with h1 h2 h3 h4
  subst h3 h4
  rcases hbad with q | q | q
  · cases q
  · cases q
  · have hbk : M.encCs (M.blk L k) = bk := h2
    have := M.dec_encC (M.srt_blk hL.s k) (fun c hc => hL.q c (M.blk_mem hc)) (by have := M.blk_len4 L k; omega)
    rw [hbk, q] at this
    cases this
/-- At the end. -/
theorem Read10.fin {t : List UInt8} {k : Nat} {x bl : M.RS} {C : List M.Cl} {Bk F : List (List UInt8)} (h : Read10 t k 0 x bl C Bk F) (hs : M.srt none C = true) (hn : ¬ 4096 < C.length) (ht : M.tableT C = t) : M.IsT t C ∧ F = M.firsts C (M.many C) ∧ Bk = M.blksB C (M.many C) := by
  have hi : M.IsT t C := ⟨hs, by omega, fun c hc => (h.ok c hc).2.2.h2, ht⟩
  obtain ⟨i1, _, _, _, i5, i6⟩ := h.is C hi
  have : k = M.many C := by omega
  subst this
  exact ⟨hi, i5, i6⟩
theorem Read10.finBad {t : List UInt8} {k : Nat} {x bl : M.RS} {C : List M.Cl} {Bk F : List (List UInt8)} (h : Read10 t k 0 x bl C Bk F) (hb : M.srt none C = false ∨ 4096 < C.length ∨ M.tableT C ≠ t) : ∀ L, ¬ M.IsT t L := fun L hL => by
  obtain ⟨i1, _, _, i4, _⟩ := h.is L hL
  have : k = M.many L := by omega
  subst this
  rw [M.take_many] at i4
  subst i4
  rcases hb with q | q | q
  · rw [hL.s] at q; cases q
  · have := hL.n; omega
  · exact q hL.t
/-- An append, as a step of a region: what its run comes to. -/
theorem step_append_run {P : Program} {w : World} {ops : Array Oper} {o : Oper} {a : Act} {K : Act → World → Prop} {Q : Exit → Act → World → Prop} {E : Prop} (hgd : o.guard = none) (s x : Operand) (t : TypeId)
    (ho : o.op = .call { callee := .builtin .append, args := #[s, x], argTypes := #[t, t] }) {v u v' : Value} {w' : World} (hs : a.eval s = v) (hx : a.eval x = u)
    (hr : (Builtin.append_ #[t, t] o.type #[v, u]).run P w = .ok v' w') (h : K (a.put o.dst v') w') :
    if Region.wanted o (yielded ops a.tmps) = true then Oper.wp P o a w K Q else E := by
  have hw : Region.wanted o (yielded ops a.tmps) = true := by simp [Region.wanted, hgd]
  rw [if_pos hw]
  unfold Oper.wp execOp
  simp only [ho, resolve, invoke, builtin, Sem.run_bind, Sem.run_pure, Result.andThen_ok, List.map_toArray, List.map_cons, List.map_nil, hs, hx, hr]
  exact h
theorem append_st10 (w : World) (base : Nat) (t ty : TypeId) (ht : Tryz.prog.underlying t = some (.slice 9)) (v : Value) (ps : List (List UInt8)) (ho : w.ownsRow base 9 1 v ps.length (txs10 ps)) (g c : Nat) (p : List UInt8) (hg : RowIn #[.string (S p)] 9 w g) (hl : ps.length ≤ 1000000) (hb : base ≤ w.heap.size) :
    ∃ v' w', (Builtin.append_ #[t, t] ty #[v, .slice (some ⟨g, 0, none⟩) 1 c]).run Tryz.prog w = .ok v' w' ∧ w'.ownsRow base 9 1 v' (ps ++ [p]).length (txs10 (ps ++ [p])) ∧ w.grownBy w' v.ownBlock ∧ (v'.ownBlock = v.ownBlock ∨ v'.ownBlock = some w.heap.size) := by
  obtain ⟨iS, hiS, hzS, hsS, hbS⟩ := info_parts infoSt10
  obtain ⟨v', w', hr, h2, h3, -, h5⟩ := run_append_own_at (P := Tryz.prog) w base t ty 9 iS (.string ByteArray.empty) 1 16 ht hiS hzS hsS hbS rfl (by decide) v ps.length (txs10 ps) ho ⟨g, 0, none⟩ 1 c [.string (S p)] rfl (fun j u hu => add_row hg rfl j u hu) (by simp [Value.oneCell']) (by unfold maxLen; omega) (by omega) hb
  exact ⟨v', w', hr, by rw [txs10_snoc, List.length_append]; exact h2, h3, h5⟩
/-- A piece of one text, made for an append. -/
def Pc10 (x : Value) (p : List UInt8) (w : World) (v u : Value) : Prop := ∃ g, x = .slice (some ⟨g, 0, none⟩) 1 1 ∧ RowIn #[.string (S p)] 9 w g ∧ v.ownBlock ≠ some g ∧ u.ownBlock ≠ some g
theorem Pc10.below {x : Value} {p : List UInt8} {w w' : World} {v u : Value} (h : Pc10 x p w v u) (hb : Below w.heap.size w w') : Pc10 x p w' v u := by
  obtain ⟨g, h1, h2, h3, h4⟩ := h
  exact ⟨g, h1, h2.below hb, h3, h4⟩
theorem Pc10.symm {x : Value} {p : List UInt8} {w : World} {v u : Value} (h : Pc10 x p w v u) : Pc10 x p w u v := by
  obtain ⟨g, h1, h2, h3, h4⟩ := h
  exact ⟨g, h1, h2, h4, h3⟩
/-- What the region has: the table that is laid, the index, the rows. -/
structure Rs10 (W : World) (bx bt : Nat) (x bl : M.RS) (vB0 vF0 vB vF vC : Value) (Bk F : List (List UInt8)) (C : List M.Cl) (w : World) : Prop where
  row : RowIn #[vB0, vF0, .int .i64 0] 99 w bt
  idx : IdxAt bx x bl w
  b : w.ownsRow W.heap.size 9 1 vB Bk.length (txs10 Bk)
  f : w.ownsRow W.heap.size 9 1 vF F.length (txs10 F)
  c : w.ownsRow W.heap.size 38 3 vC C.length (cls C)
  ne : ∀ q, vB.ownBlock = some q → vF.ownBlock ≠ some q
  bel : Below W.heap.size W w
theorem Rs10.below {W : World} {bx bt : Nat} {x bl : M.RS} {vB0 vF0 vB vF vC : Value} {Bk F : List (List UInt8)} {C : List M.Cl} {w w' : World} (h : Rs10 W bx bt x bl vB0 vF0 vB vF vC Bk F C w) (hb : Below w.heap.size w w') : Rs10 W bx bt x bl vB0 vF0 vB vF vC Bk F C w' :=
  ⟨h.row.below hb, h.idx.below hb, ownP_below h.b hb, ownP_below h.f hb, ownP_below h.c hb, h.ne, below_step h.bel hb⟩
theorem row_kept10 {w w' : World} {C : Array Value} {T : TypeId} {g : Nat} {row : Option Nat} (h : RowIn C T w g) (hg : w.grownBy w' row) (hn : row ≠ some g) : RowIn C T w' g :=
  h.grownP hg (fun q hq e => hn (by rw [hq, e]))
theorem Pc10.grown {x : Value} {p : List UInt8} {w w' : World} {v u v' : Value} (h : Pc10 x p w v u) (hg : w.grownBy w' v.ownBlock) (hat : v'.ownBlock = v.ownBlock ∨ v'.ownBlock = some w.heap.size) : Pc10 x p w' v' u := by
  obtain ⟨g, h1, h2, h3, h4⟩ := h
  refine ⟨g, h1, row_kept10 h2 hg h3, fun e => ?_, h4⟩
  rcases hat with k | k
  · exact h3 (k ▸ e)
  · rw [k] at e
    injection e with e
    have := h2.lt
    omega
theorem Rs10.appF {W : World} {bx bt : Nat} {x bl : M.RS} {vB0 vF0 vB vF vC vF' : Value} {Bk F : List (List UInt8)} {C : List M.Cl} {p : List UInt8} {w w' : World} (h : Rs10 W bx bt x bl vB0 vF0 vB vF vC Bk F C w) (ho : w'.ownsRow W.heap.size 9 1 vF' (F ++ [p]).length (txs10 (F ++ [p]))) (hg : w.grownBy w' vF.ownBlock) (hat : vF'.ownBlock = vF.ownBlock ∨ vF'.ownBlock = some w.heap.size) :
    Rs10 W bx bt x bl vB0 vF0 vB vF' vC Bk (F ++ [p]) C w' := by
  refine ⟨row_kept10 h.row hg (fun e => row_apart h.row h.f (by decide) bt e rfl), ⟨row_kept10 h.idx.row hg (fun e => row_apart h.idx.row h.f (by decide) bx e rfl), h.idx.l1, h.idx.l2⟩, h.b.kept hg ?_, ho, h.c.kept hg (own_apart h.c h.f (by decide)), fun q hq e => ?_, h.bel.grown hg h.bel.size (fun k hk => (h.f.lt k hk).1)⟩
  · cases hb : vB.ownBlock with
    | none => exact .inl rfl
    | some q => exact .inr (fun e => h.ne q hb e.symm)
  · rcases hat with k | k
    · exact h.ne q hq (k ▸ e)
    · rw [k] at e
      injection e with e
      have := (h.b.lt q hq).2
      omega
theorem Rs10.flip {W : World} {bx bt : Nat} {x bl : M.RS} {vB0 vF0 vB vF vC : Value} {Bk F : List (List UInt8)} {C : List M.Cl} {w : World} (h : Rs10 W bx bt x bl vB0 vF0 vB vF vC Bk F C w) : Rs10 W bx bt x bl vB0 vF0 vF vB vC F Bk C w :=
  ⟨h.row, h.idx, h.f, h.b, h.c, fun q hq e => h.ne q e hq, h.bel⟩
theorem Rs10.appC {W : World} {bx bt : Nat} {x bl : M.RS} {vB0 vF0 vB vF vC vC' : Value} {Bk F : List (List UInt8)} {C C' : List M.Cl} {w w' : World} (h : Rs10 W bx bt x bl vB0 vF0 vB vF vC Bk F C w) (ho : w'.ownsRow W.heap.size 38 3 vC' C'.length (cls C')) (hg : w.grownBy w' vC.ownBlock) :
    Rs10 W bx bt x bl vB0 vF0 vB vF vC' Bk F C' w' :=
  ⟨row_kept10 h.row hg (fun e => row_apart h.row h.c (by decide) bt e rfl), ⟨row_kept10 h.idx.row hg (fun e => row_apart h.idx.row h.c (by decide) bx e rfl), h.idx.l1, h.idx.l2⟩, h.b.kept hg (own_apart h.b h.c (by decide)), h.f.kept hg (own_apart h.f h.c (by decide)), ho, h.ne, h.bel.grown hg h.bel.size (fun k hk => (h.c.lt k hk).1)⟩
/-- Cells that were decoded, apart from those that are kept. -/
def Ln10 (al : Option Addr) (Ln : List M.Cl) (cl : Nat) (vC : Value) (w : World) : Prop := ∃ B, w.ownsRow B 38 3 (.slice al Ln.length cl) Ln.length (cls Ln) ∧ ∀ q, (Value.slice al Ln.length cl).ownBlock = some q → vC.ownBlock ≠ some q
theorem Ln10.below {al : Option Addr} {Ln : List M.Cl} {cl : Nat} {vC : Value} {w w' : World} (h : Ln10 al Ln cl vC w) (hb : Below w.heap.size w w') : Ln10 al Ln cl vC w' := by
  obtain ⟨B, h1, h2⟩ := h
  exact ⟨B, ownP_below h1 hb, h2⟩
theorem Ln10.grown {al : Option Addr} {Ln : List M.Cl} {cl : Nat} {vC v : Value} {w w' : World} {B n : Nat} {xs : List Value} (h : Ln10 al Ln cl vC w) (ho : w.ownsRow B 9 1 v n xs) (hg : w.grownBy w' v.ownBlock) : Ln10 al Ln cl vC w' := by
  obtain ⟨B', h1, h2⟩ := h
  exact ⟨B', h1.kept hg (own_apart h1 ho (by decide)), h2⟩

end Go.Proofs.YtnhljlmelbiljaaGreat

/- Layer 10: a region of Open that draws its order: what it has, step by step. -/
namespace Go.Proofs.YtnhljlmelbiljaaGreat
set_option linter.unusedVariables false
open Go Go.RowKit

abbrev B7 := Bool × Bool × Bool × Bool × Bool × Bool × Bool
def allB (p : Bool → Bool) : Bool := p false && p true
theorem allB_spec {p : Bool → Bool} (h : allB p = true) : ∀ b, p b = true := fun b => by
  simp only [allB, Bool.and_eq_true] at h
  cases b
  · exact h.1
  · exact h.2
def all7 (p : B7 → Bool) : Bool := allB fun a => allB fun b => allB fun c => allB fun d => allB fun e => allB fun f => allB fun g => p (a, b, c, d, e, f, g)
theorem all7_spec {p : B7 → Bool} (h : all7 p = true) : ∀ s, p s = true := fun ⟨a, b, c, d, e, f, g⟩ =>
  allB_spec (allB_spec (allB_spec (allB_spec (allB_spec (allB_spec (allB_spec h a) b) c) d) e) f) g
def lst18 : B7 → Array Bool := fun (f5, f7, f8, f12, f14, f15, f18) => #[true, true, true, true, true, f5, true, f7, f8, true, true, true, f12, true, f14, f15, true, true, f18, false, false, false, false, false, false, false]
def good18 : B7 → Bool := fun (f5, f7, f8, f12, f14, f15, f18) => (!f8 || f5 && f7) && (!f15 || f8 && f12 && f14) && (!f18 || f15)
def nx18 : B7 → List (Nat × B7) := fun (f5, f7, f8, f12, f14, f15, f18) => if good18 (f5, f7, f8, f12, f14, f15, f18) then opt1 (!f5) (5, (true, f7, f8, f12, f14, f15, f18)) ++ opt1 (!f7) (7, (f5, true, f8, f12, f14, f15, f18)) ++ opt1 (!f8 && f5 && f7) (8, (f5, f7, true, f12, f14, f15, f18)) ++ opt1 (!f12) (12, (f5, f7, f8, true, f14, f15, f18)) ++ opt1 (!f14) (14, (f5, f7, f8, f12, true, f15, f18)) ++ opt1 (!f15 && f12 && f14 && f8) (15, (f5, f7, f8, f12, f14, true, f18)) ++ opt1 (!f18 && f15) (18, (f5, f7, f8, f12, f14, f15, true)) else []
def m18 : B7 → Nat := fun (f5, f7, f8, f12, f14, f15, f18) => (if f5 then 0 else 1) + (if f7 then 0 else 1) + (if f8 then 0 else 1) + (if f12 then 0 else 1) + (if f14 then 0 else 1) + (if f15 then 0 else 1) + (if f18 then 0 else 1)
def put18 (a : Act) (x5 x7 x8 x12 x14 x15 x18 : Value) : Act := (((((((a.put (some 79) x5).put (some 81) x7).put (some 82) x8).put (some 86) x12).put (some 88) x14).put (some 89) x15).put (some 92) x18)
theorem put_self10 (a : Act) (d : Nat) : a.put (some d) (a.tmps.getD d undef) = a := by
  obtain ⟨tmps, df⟩ := a
  simp only [Act.put, Act.mk.injEq, and_true]
  apply Array.ext_getElem?
  intro i
  rw [Array.getElem?_setIfInBounds]
  by_cases e : d = i
  · subst e
    by_cases h : d < tmps.size
    · simp [h]
    · simp [h]
  · simp [e]
theorem put18_self (a : Act) : a = put18 a (a.tmps.getD 79 undef) (a.tmps.getD 81 undef) (a.tmps.getD 82 undef) (a.tmps.getD 86 undef) (a.tmps.getD 88 undef) (a.tmps.getD 89 undef) (a.tmps.getD 92 undef) := by
  simp only [put18, put_self10]
/-- What the region begins with. -/
structure P18 where
  W : World
  bx : Nat
  bt : Nat
  x : M.RS
  bl : M.RS
  vB : Value
  vF : Value
  vC : Value
  Bk : List (List UInt8)
  F : List (List UInt8)
  C : List M.Cl
  fs : List UInt8
  bk : List UInt8
  al : Option Addr
  Ln : List M.Cl
  cl : Nat
  hF : F.length ≤ 1000000
  hB : Bk.length ≤ 1000000
  hC : C.length + Ln.length ≤ 1000000
structure St18 (p : P18) (f5 f7 f8 f12 f14 f15 f18 : Bool) (x5 x7 x8 x12 x14 x15 x18 : Value) (vB vF vC : Value) (Bk F : List (List UInt8)) (C : List M.Cl) (w : World) : Prop where
  rs : Rs10 p.W p.bx p.bt p.x p.bl p.vB p.vF vB vF vC Bk F C w
  l1 : f5 = true → x5 = p.vF
  l2 : f12 = true → x12 = p.vB
  a0 : f8 = false → vF = p.vF ∧ F = p.F
  a1 : f8 = true → x8 = vF ∧ F = p.F ++ [p.fs]
  b0 : f15 = false → vB = p.vB ∧ Bk = p.Bk
  b1 : f15 = true → x15 = vB ∧ Bk = p.Bk ++ [p.bk]
  c0 : f18 = false → vC = p.vC ∧ C = p.C ∧ Ln10 p.al p.Ln p.cl vC w
  c1 : f18 = true → x18 = vC ∧ C = p.C ++ p.Ln
  p1 : f7 = true → f8 = false → Pc10 x7 p.fs w vF vB
  p2 : f14 = true → f15 = false → Pc10 x14 p.bk w vF vB
def Sx18 (p : P18) (f5 f7 f8 f12 f14 f15 f18 : Bool) (x5 x7 x8 x12 x14 x15 x18 : Value) (w : World) : Prop := ∃ vB vF vC Bk F C, St18 p f5 f7 f8 f12 f14 f15 f18 x5 x7 x8 x12 x14 x15 x18 vB vF vC Bk F C w
section
variable {p : P18} {f5 f7 f8 f12 f14 f15 f18 : Bool} {x5 x7 x8 x12 x14 x15 x18 : Value} {w : World}
theorem Sx18.cell1 (h : Sx18 p f5 f7 f8 f12 f14 f15 f18 x5 x7 x8 x12 x14 x15 x18 w) : w.cell? ⟨p.bt, 1, none⟩ = some p.vF := by
  obtain ⟨vB, vF, vC, Bk, F, C, h⟩ := h
  exact h.rs.row.cell 1
theorem Sx18.cell0 (h : Sx18 p f5 f7 f8 f12 f14 f15 f18 x5 x7 x8 x12 x14 x15 x18 w) : w.cell? ⟨p.bt, 0, none⟩ = some p.vB := by
  obtain ⟨vB, vF, vC, Bk, F, C, h⟩ := h
  exact h.rs.row.cell 0
theorem Sx18.z5 (h : Sx18 p f5 f7 f8 f12 f14 f15 f18 x5 x7 x8 x12 x14 x15 x18 w) : Sx18 p true f7 f8 f12 f14 f15 f18 p.vF x7 x8 x12 x14 x15 x18 w := by
  obtain ⟨vB, vF, vC, Bk, F, C, h⟩ := h
  exact ⟨vB, vF, vC, Bk, F, C, h.rs, fun _ => rfl, h.l2, h.a0, h.a1, h.b0, h.b1, h.c0, h.c1, h.p1, h.p2⟩
theorem Sx18.z12 (h : Sx18 p f5 f7 f8 f12 f14 f15 f18 x5 x7 x8 x12 x14 x15 x18 w) : Sx18 p f5 f7 f8 true f14 f15 f18 x5 x7 x8 p.vB x14 x15 x18 w := by
  obtain ⟨vB, vF, vC, Bk, F, C, h⟩ := h
  exact ⟨vB, vF, vC, Bk, F, C, h.rs, h.l1, fun _ => rfl, h.a0, h.a1, h.b0, h.b1, h.c0, h.c1, h.p1, h.p2⟩
theorem pc10_new {v u : Value} {B B' : Nat} {e e' : TypeId} {n m sz sz' : Nat} {xs ys : List Value} (t : List UInt8) (h : w.ownsRow B e sz v n xs) (k : w.ownsRow B' e' sz' u m ys) : Pc10 (.slice (some ⟨w.heap.size, 0, none⟩) 1 1) t (w.alloc (.cells #[.string (S t)] 9)) v u :=
  ⟨w.heap.size, rfl, rowIn_new _ _ _, fun e => by have := (h.lt _ e).2; omega, fun e => by have := (k.lt _ e).2; omega⟩
theorem Sx18.z7 (h : Sx18 p f5 false f8 f12 f14 f15 f18 x5 x7 x8 x12 x14 x15 x18 w) : Sx18 p f5 true f8 f12 f14 f15 f18 x5 (.slice (some ⟨w.heap.size, 0, none⟩) 1 1) x8 x12 x14 x15 x18 (w.alloc (.cells #[.string (S p.fs)] 9)) := by
  obtain ⟨vB, vF, vC, Bk, F, C, h⟩ := h
  have hb := (Below.refl w.heap.size w).alloc (Nat.le_refl _) (.cells #[.string (S p.fs)] 9)
  exact ⟨vB, vF, vC, Bk, F, C, h.rs.below hb, h.l1, h.l2, h.a0, h.a1, h.b0, h.b1, fun e => ⟨(h.c0 e).1, (h.c0 e).2.1, (h.c0 e).2.2.below hb⟩, h.c1, fun _ _ => pc10_new p.fs h.rs.f h.rs.b, fun e1 e2 => (h.p2 e1 e2).below hb⟩
theorem Sx18.z14 (h : Sx18 p f5 f7 f8 f12 false f15 f18 x5 x7 x8 x12 x14 x15 x18 w) : Sx18 p f5 f7 f8 f12 true f15 f18 x5 x7 x8 x12 (.slice (some ⟨w.heap.size, 0, none⟩) 1 1) x15 x18 (w.alloc (.cells #[.string (S p.bk)] 9)) := by
  obtain ⟨vB, vF, vC, Bk, F, C, h⟩ := h
  have hb := (Below.refl w.heap.size w).alloc (Nat.le_refl _) (.cells #[.string (S p.bk)] 9)
  exact ⟨vB, vF, vC, Bk, F, C, h.rs.below hb, h.l1, h.l2, h.a0, h.a1, h.b0, h.b1, fun e => ⟨(h.c0 e).1, (h.c0 e).2.1, (h.c0 e).2.2.below hb⟩, h.c1, fun e1 e2 => (h.p1 e1 e2).below hb, fun _ _ => pc10_new p.bk h.rs.f h.rs.b⟩
theorem Sx18.z8 (h : Sx18 p true true false f12 f14 f15 f18 x5 x7 x8 x12 x14 x15 x18 w) : ∃ v' w', (Builtin.append_ #[73, 73] 73 #[x5, x7]).run Tryz.prog w = .ok v' w' ∧ Sx18 p true true true f12 f14 f15 f18 x5 x7 v' x12 x14 x15 x18 w' := by
  obtain ⟨vB, vF, vC, Bk, F, C, h⟩ := h
  obtain ⟨rfl, rfl⟩ := h.a0 rfl
  obtain rfl := h.l1 rfl
  obtain ⟨g, rfl, hg, hg1, hg2⟩ := h.p1 rfl rfl
  obtain ⟨v', w', hr, ho, hgr, hat⟩ := append_st10 w p.W.heap.size 73 73 Tryz.underlying73 p.vF p.F h.rs.f g 1 p.fs hg p.hF h.rs.bel.size
  refine ⟨v', w', hr, vB, v', vC, Bk, p.F ++ [p.fs], C, h.rs.appF ho hgr hat, h.l1, h.l2, (fun e => by cases e), (fun _ => ⟨rfl, rfl⟩), h.b0, h.b1, (fun e => ⟨(h.c0 e).1, (h.c0 e).2.1, (h.c0 e).2.2.grown h.rs.f hgr⟩), h.c1, (fun _ e => by cases e), (fun e1 e2 => (h.p2 e1 e2).grown hgr hat)⟩
theorem Sx18.z15 (h : Sx18 p f5 f7 f8 true true false f18 x5 x7 x8 x12 x14 x15 x18 w) : ∃ v' w', (Builtin.append_ #[73, 73] 73 #[x12, x14]).run Tryz.prog w = .ok v' w' ∧ Sx18 p f5 f7 f8 true true true f18 x5 x7 x8 x12 x14 v' x18 w' := by
  obtain ⟨vB, vF, vC, Bk, F, C, h⟩ := h
  obtain ⟨rfl, rfl⟩ := h.b0 rfl
  obtain rfl := h.l2 rfl
  obtain ⟨g, rfl, hg, hg1, hg2⟩ := h.p2 rfl rfl
  obtain ⟨v', w', hr, ho, hgr, hat⟩ := append_st10 w p.W.heap.size 73 73 Tryz.underlying73 p.vB p.Bk h.rs.b g 1 p.bk hg p.hB h.rs.bel.size
  refine ⟨v', w', hr, v', vF, vC, p.Bk ++ [p.bk], F, C, (h.rs.flip.appF ho hgr hat).flip, h.l1, h.l2, h.a0, h.a1, (fun e => by cases e), (fun _ => ⟨rfl, rfl⟩), (fun e => ⟨(h.c0 e).1, (h.c0 e).2.1, (h.c0 e).2.2.grown h.rs.b hgr⟩), h.c1, (fun e1 e2 => ((h.p1 e1 e2).symm.grown hgr hat).symm), (fun _ e => by cases e)⟩
theorem Sx18.z18 (h : Sx18 p f5 f7 f8 f12 f14 f15 false x5 x7 x8 x12 x14 x15 x18 w) : ∃ v' w', (Builtin.append_ #[22, 22] 22 #[p.vC, .slice p.al p.Ln.length p.cl]).run Tryz.prog w = .ok v' w' ∧ Sx18 p f5 f7 f8 f12 f14 f15 true x5 x7 x8 x12 x14 x15 v' w' := by
  obtain ⟨i0, z0, hi, hz0, hz1, hz2, hz3⟩ := infoCl_parts
  obtain ⟨vB, vF, vC, Bk, F, C, h⟩ := h
  obtain ⟨rfl, rfl, B', hl, hne⟩ := h.c0 rfl
  obtain ⟨v', w', hr, ho, hgr⟩ := append_cls w p.W.heap.size 22 22 i0 z0 Tryz.underlying22 hi hz0 hz1 hz2 hz3 p.vC p.C.length (cls p.C) h.rs.c p.al p.cl p.Ln (clsAt_own hl rfl) p.hC h.rs.bel.size
  refine ⟨v', w', hr, vB, vF, v', Bk, F, p.C ++ p.Ln, h.rs.appC (by rw [cls_append, List.length_append]; exact ho) hgr, h.l1, h.l2, h.a0, h.a1, h.b0, h.b1, (fun e => by cases e), (fun _ => ⟨rfl, rfl⟩), (fun e1 e2 => ?_), (fun e1 e2 => ?_)⟩
  · obtain ⟨g, g1, g2, g3, g4⟩ := h.p1 e1 e2
    exact ⟨g, g1, row_kept10 g2 hgr (fun e => row_apart g2 h.rs.c (by decide) g e rfl), g3, g4⟩
  · obtain ⟨g, g1, g2, g3, g4⟩ := h.p2 e1 e2
    exact ⟨g, g1, row_kept10 g2 hgr (fun e => row_apart g2 h.rs.c (by decide) g e rfl), g3, g4⟩
end
theorem good18_5 {f5 f7 f8 f12 f14 f15 f18 : Bool} : good18 (f5, f7, f8, f12, f14, f15, f18) = true → (!f5) = true → good18 (true, f7, f8, f12, f14, f15, f18) = true := by revert f5 f7 f8 f12 f14 f15 f18; decide
theorem good18_7 {f5 f7 f8 f12 f14 f15 f18 : Bool} : good18 (f5, f7, f8, f12, f14, f15, f18) = true → (!f7) = true → good18 (f5, true, f8, f12, f14, f15, f18) = true := by revert f5 f7 f8 f12 f14 f15 f18; decide
theorem good18_8 {f5 f7 f8 f12 f14 f15 f18 : Bool} : good18 (f5, f7, f8, f12, f14, f15, f18) = true → (!f8 && f5 && f7) = true → good18 (f5, f7, true, f12, f14, f15, f18) = true := by revert f5 f7 f8 f12 f14 f15 f18; decide
theorem good18_12 {f5 f7 f8 f12 f14 f15 f18 : Bool} : good18 (f5, f7, f8, f12, f14, f15, f18) = true → (!f12) = true → good18 (f5, f7, f8, true, f14, f15, f18) = true := by revert f5 f7 f8 f12 f14 f15 f18; decide
theorem good18_14 {f5 f7 f8 f12 f14 f15 f18 : Bool} : good18 (f5, f7, f8, f12, f14, f15, f18) = true → (!f14) = true → good18 (f5, f7, f8, f12, true, f15, f18) = true := by revert f5 f7 f8 f12 f14 f15 f18; decide
theorem good18_15 {f5 f7 f8 f12 f14 f15 f18 : Bool} : good18 (f5, f7, f8, f12, f14, f15, f18) = true → (!f15 && f12 && f14 && f8) = true → good18 (f5, f7, f8, f12, f14, true, f18) = true := by revert f5 f7 f8 f12 f14 f15 f18; decide
theorem good18_18 {f5 f7 f8 f12 f14 f15 f18 : Bool} : good18 (f5, f7, f8, f12, f14, f15, f18) = true → (!f18 && f15) = true → good18 (f5, f7, f8, f12, f14, f15, true) = true := by revert f5 f7 f8 f12 f14 f15 f18; decide
theorem fin18 {f5 f7 f8 f12 f14 f15 f18 : Bool} : good18 (f5, f7, f8, f12, f14, f15, f18) = true → nx18 (f5, f7, f8, f12, f14, f15, f18) = [] → f5 = true ∧ f7 = true ∧ f8 = true ∧ f12 = true ∧ f14 = true ∧ f15 = true ∧ f18 = true := fun h1 h2 => by
  have h3 : (nx18 (f5, f7, f8, f12, f14, f15, f18)).isEmpty = true := by rw [h2]; rfl
  clear h2
  have h4 : (f5 && f7 && f8 && f12 && f14 && f15 && f18) = true := by revert f5 f7 f8 f12 f14 f15 f18; decide
  simp only [Bool.and_eq_true] at h4
  obtain ⟨⟨⟨⟨⟨⟨a, b⟩, c⟩, d⟩, e⟩, f⟩, g⟩ := h4
  exact ⟨a, b, c, d, e, f, g⟩
def J18 (p : P18) (a0 : Act) : B7 → Act → World → Prop := fun (f5, f7, f8, f12, f14, f15, f18) a w => good18 (f5, f7, f8, f12, f14, f15, f18) = true ∧ ∃ x5 x7 x8 x12 x14 x15 x18, a = put18 a0 x5 x7 x8 x12 x14 x15 x18 ∧ Sx18 p f5 f7 f8 f12 f14 f15 f18 x5 x7 x8 x12 x14 x15 x18 w

end Go.Proofs.YtnhljlmelbiljaaGreat

/- Layer 10: the table of a text, walked. -/
namespace Go.Proofs.YtnhljlmelbiljaaGreat
set_option linter.unusedVariables false
open Go Go.RowKit
attribute [local go_sem ↓] run_index_S
attribute [local go_sem] S_append S_extract

set_option maxHeartbeats 8000000 in
set_option maxRecDepth 100000 in
theorem open10_any (t : List UInt8) (ht : t.length ≤ 900000) (w : World) :
    Calls Tryz.prog 24 #[.string (S t)] w fun e w' => OpenR10 t w e w' := by
  obtain ⟨iS, hiS, hzS, hsS, hbS⟩ := info_parts infoSt10
  obtain ⟨j0, y0, hj, hy0, hy1, hy2, hy3⟩ := infoCl_parts
  by_cases h0 : t.length < 25
  · have q0 : decide ((t.length : Int) < 25) = true := by simp; omega
    have HN := Lib.hid (openR10_none (w := w) (w' := w) (t := t) (fun L h => by have := isT_len h; omega) (Below.refl _ _))
    go_enter Tryz.func24, Tryz.ntmps24
    go_wp2_with fail
    go_ret2
    exact HN.out
  have q0 : decide ((t.length : Int) < 25) = false := by simp; omega
  obtain ⟨bl, hbl⟩ : ∃ b : Nat, b = t.length - 25 := ⟨_, rfl⟩
  have k1 := run_piece_to (P := Tryz.prog) 9 Tryz.underlying9 t ((t.length : Int) - 25) bl (by omega) (by omega)
  have hbody : (t.take bl).length = bl := by rw [List.length_take]; omega
  have k2 := run_piece_from (P := Tryz.prog) 9 Tryz.underlying9 t ((bl : Int) + 4) (bl + 4) (by omega) (by omega)
  have hfl : (t.drop (bl + 4)).length = 21 := by rw [List.length_drop]; omega
  have HFI := Lib.hid (show ∀ L, M.IsT t L → ∃ z, M.bigR ⟨t.drop (bl + 4), false⟩ = ((M.bodyT L).length, ⟨z, false⟩) from fun L h => by rw [show bl + 4 = t.length - 21 from by omega]; exact isT_foot h)
  have HSI := Lib.hid (show ∀ L, M.IsT t L → (M.bodyT L).length ≤ bl from fun L h => by rw [hbl]; exact isT_size h)
  have HST := Lib.hid (show ∀ L, M.IsT t L → M.numR ⟨(t.take bl).drop (M.bodyT L).length, false⟩ = (M.many L, ⟨M.idxS (M.many L) L, false⟩) ∧ (t.take bl).take (M.bodyT L).length = M.bodyS (M.many L) L from fun L h => by rw [hbl]; exact isT_start h)
  have hbl2 : bl ≤ 900000 := by omega
  have HBL := Lib.hid hbl
  have HBO := Lib.hid hbody
  have HFL := Lib.hid hfl
  clear hbl hfl hbody
  have HNO := Lib.hid (fun (h : ∀ L, ¬ M.IsT t L) w' (hb : Below w.heap.size w w') => openR10_none (w := w) (w' := w') h hb)
  generalize hfoot : t.drop (bl + 4) = ft at *
  generalize hbody : t.take bl = bd at *
  have hbd : bd.length = bl := HBO.out
  clear hfoot hbody
  have CB := Lib.hid (fun W g (h : RsAt #[.string (S ft), .bool false] 95 g 0 ⟨ft, false⟩ W) => big10_any _ _ g 0 ⟨ft, false⟩ W h)
  have HR0 := Lib.hid (rowIn_new #[.string (S ft), .bool false] 95 w)
  have HB0 := Lib.hid ((Below.refl w.heap.size w).alloc (Nat.le_refl _) (.cells #[.string (S ft), .bool false] 95))
  go_enter Tryz.func24, Tryz.ntmps24
  go_wp2_with fail
  with_reducible refine (CB.out _ _ ⟨HR0.out, rfl, rfl, by have := HFL.out; show ft.length ≤ _; omega⟩).mono ?_
  rintro e w1 ⟨rfl, h1, h2, h3⟩
  have HB1 := Lib.hid (HB0.out.trans (h2.below (B := w.heap.size) (fun k hk => by omega) (by rw [szA]; omega)))
  have HZ1 := Lib.hid (show w1.heap.size = w.heap.size + 1 from by rw [h3, szA])
  have HR1 := Lib.hid h1
  clear h1 h2 h3 HR0 HB0 CB
  obtain ⟨⟨size, ⟨fz, fb⟩⟩, hbig⟩ : ∃ q, M.bigR ⟨ft, false⟩ = q := ⟨_, rfl⟩
  rw [hbig] at HR1 HFI
  rw [hbig]
  have c1 : w1.cell? ⟨w.heap.size, 1, none⟩ = some (.bool fb) := HR1.out.cell 1
  cases fb with
  | true =>
    have HN := Lib.hid (HNO.out (fun L h => by obtain ⟨z, hz⟩ := HFI.out L h; cases hz) w1 HB1.out)
    go_wp2_with fail
    go_ret2
    exact HN.out
  | false =>
    by_cases hsz : bd.length < size
    · have q1 : decide ((bd.length : Int) < (size : Int)) = true := by simp; omega
      have q1' : decide (bd.length < size) = true := by simp; omega
      have HN := Lib.hid (HNO.out (fun L h => by obtain ⟨z, hz⟩ := HFI.out L h; have := HSI.out L h; injection hz with hz; omega) w1 HB1.out)
      go_wp2_with fail
      go_ret2
      exact HN.out
    have q1 : decide ((bd.length : Int) < (size : Int)) = false := by simp; omega
    have q1' : decide (bd.length < size) = false := by simp; omega
    have k3 := run_piece_from (P := Tryz.prog) 9 Tryz.underlying9 bd (size : Int) size rfl (by omega)
    have k4 := run_piece_to (P := Tryz.prog) 9 Tryz.underlying9 bd (size : Int) size rfl (by omega)
    go_wp2_with fail
    have HI0 := Lib.hid (show IdxAt w1.heap.size ⟨bd.drop size, false⟩ ⟨bd.take size, false⟩ ((w1.alloc (.cells #[.string (S (bd.drop size)), .bool false, .string (S (bd.take size)), .bool false] 97)).alloc (.cells #[.slice none 0 0, .slice none 0 0, .int .i64 0] 99)).drew from ⟨(rowIn_new _ _ w1).more _, by simp; omega, by simp; omega⟩)
    have HT0 := Lib.hid (show RowIn #[.slice none 0 0, .slice none 0 0, .int .i64 0] 99 ((w1.alloc (.cells #[.string (S (bd.drop size)), .bool false, .string (S (bd.take size)), .bool false] 97)).alloc (.cells #[.slice none 0 0, .slice none 0 0, .int .i64 0] 99)).drew (w1.heap.size + 1) from rowIn_at _ _ _ _ (by rw [szA]))
    have HB2 := Lib.hid (show Below w.heap.size w ((w1.alloc (.cells #[.string (S (bd.drop size)), .bool false, .string (S (bd.take size)), .bool false] 97)).alloc (.cells #[.slice none 0 0, .slice none 0 0, .int .i64 0] 99)).drew from ((HB1.out.alloc HB1.out.size _).alloc (by have := HB1.out.size; rw [szA]; omega) _).drew)
    have HW1 := Lib.hid HB1.out.size
    go_region
    go_wp2_with fail
    with_reducible refine (ix_num HI0.out).mono ?_
    rintro e w2 ⟨rfl, h1, h2, h3⟩
    have HTB := Lib.hid (show TabRow w.heap.size (w1.heap.size + 1) (.slice none 0 0) (.slice none 0 0) [] [] 0 w2 from ⟨h2.row HT0.out (by omega), World.ownsRow_nil _ _ _ _, World.ownsRow_nil _ _ _ _, fun q hq => by simp [Value.ownBlock] at hq⟩)
    have HB3 := Lib.hid (HB2.out.trans (h2.below (B := w.heap.size) (fun k hk => by have := HW1.out; omega) HB2.out.size))
    have HIX := Lib.hid h1
    have HRD := Lib.hid (show Read10 t 0 (M.numR ⟨bd.drop size, false⟩).1 (M.numR ⟨bd.drop size, false⟩).2 ⟨bd.take size, false⟩ [] [] [] from by
      have hl1 := M.numR_len ⟨bd.drop size, false⟩
      simp only [List.length_drop] at hl1
      refine ⟨rfl, rfl, by omega, by simp; omega, (fun c hc => by cases hc), (fun L hL => ?_)⟩
      obtain ⟨z, hz⟩ := HFI.out L hL
      injection hz with hz _
      subst hz
      obtain ⟨g1, g2⟩ := HST.out L hL
      rw [g1, g2]
      simp [M.firsts, M.blksB])
    clear h1 h2 h3 HI0 HT0 HB2
    have HN9 := Lib.hid (M.numR_le ⟨bd.drop size, false⟩)
    generalize M.numR ⟨bd.drop size, false⟩ = nx at *
    obtain ⟨n0, x0⟩ := nx
    go_wp2_with fail
    go_loopw [9, 10] (fun vc vn wr => ∃ (k n : Nat) (x bl : M.RS) (C : List M.Cl) (Bk F : List (List UInt8)) (ac : Option Addr) (cc : Nat) (vB vF : Value), vn = .int .i64 n ∧ vc = .slice ac C.length cc ∧ n ≤ 9223372036854775807 ∧ Hid (Read10 t k n x bl C Bk F) ∧ Hid (IdxAt w1.heap.size x bl wr) ∧ Hid (TabRow w.heap.size (w1.heap.size + 1) vB vF Bk F 0 wr) ∧ Hid (wr.ownsRow w.heap.size 38 3 (.slice ac C.length cc) C.length (cls C)) ∧ Hid (Below w.heap.size w wr)) (fun _ vn _ => (intOf vn).toNat)
    case atStart => exact ⟨0, n0, x0, ⟨bd.take size, false⟩, [], [], [], none, 0, (.slice none 0 0), (.slice none 0 0), rfl, rfl, HN9.out, HRD, HIX, HTB, Lib.hid (World.ownsRow_nil _ _ _ _), HB3⟩
    case round =>
      clear HRD HIX HTB HB3
      obtain ⟨k, n, x, bl2, C, Bk, F, ac, cc, vB, vF, rfl, rfl, hn9, HRD, HIX, HTB, HCO, HBR⟩ := hrel
      by_cases hn : 0 < n
      · obtain ⟨m, rfl⟩ : ∃ m, n = m + 1 := ⟨n - 1, by omega⟩
        have d1 : decide ((0 : Int) < ((m + 1 : Nat) : Int)) = true := by simp
        have d2 : decide (0 < m + 1) = true := by simp
        have CE := Lib.hid (entry10_any w1.heap.size x bl2 wr HIX.out)
        obtain ⟨⟨fs, bk, x', bl'⟩, he⟩ : ∃ q, M.entR x bl2 = q := ⟨_, rfl⟩
        rw [he] at CE
        have HE := Lib.hid he
        have hbk : bk.length ≤ 1000000 := by
          have h1 : bk.length ≤ bl2.t.length := by
            have e := (M.cutR_len bl2 (M.numR (M.keyR x).2).1).2
            have e2 : (M.entR x bl2).block = bk := by rw [he]
            rw [← e2]; exact e
          have := HRD.out.cl
          omega
        clear he
        go_wp2_with fail
        with_reducible refine (CE.out).mono ?_
        rintro e w3 ⟨rfl, h1, h2, h3⟩
        have HIX3 := Lib.hid h1
        have HT3 := Lib.hid (show TabRow w.heap.size (w1.heap.size + 1) vB vF Bk F 0 w3 from ⟨h2.row HTB.out.row (by omega), h2.own HTB.out.b (fun q hq e => row_apart HIX.out.row HTB.out.b (by decide) q hq e), h2.own HTB.out.f (fun q hq e => row_apart HIX.out.row HTB.out.f (by decide) q hq e), HTB.out.ne⟩)
        have HC3 := Lib.hid (h2.own HCO.out (fun q hq e => row_apart HIX.out.row HCO.out (by decide) q hq e))
        have HB3 := Lib.hid (HBR.out.trans (h2.below (B := w.heap.size) (fun k hk => by have := HW1.out; omega) HBR.out.size))
        clear h1 h2 h3 HTB HCO HBR HIX CE
        go_wp2_with fail
        have CD := Lib.hid (decode9_any bk hbk w3)
        cases hdc : M.decC bk with
        | none =>
          have HN := Lib.hid (HRD.out.bad HE.out (.inr (.inr hdc)))
          rw [hdc] at CD
          unfold DecR9 at CD
          simp only at CD
          with_reducible refine (CD.out).mono ?_
          rintro e w4 ⟨rfl, hb4⟩
          have HN2 := Lib.hid (HNO.out HN.out w4 (below_step HB3.out hb4))
          clear hb4 hdc
          cases hf : (!x'.b && !bl'.b)
          all_goals
            clear hf
            go_wp2_with fail
            go_ret2
            exact HN2.out
        | some Ln =>
          have HD := Lib.hid hdc
          rw [hdc] at CD
          unfold DecR9 at CD
          simp only at CD
          clear hdc
          with_reducible refine (CD.out).mono ?_
          rintro e w4 ⟨⟨al, cl, rfl, hol⟩, hb4⟩
          have HIX4 := Lib.hid (HIX3.out.below hb4)
          have HT4 := Lib.hid (HT3.out.below hb4)
          have HC4 := Lib.hid (ownP_below HC3.out hb4)
          have HB4 := Lib.hid (below_step HB3.out hb4)
          have HL4 := Lib.hid hol
          have HAP := Lib.hid (show ∀ q, (Value.slice al Ln.length cl).ownBlock = some q → (Value.slice ac C.length cc).ownBlock ≠ some q from fun q hq e => by
            have e1 := (HC3.out.lt q e).2
            have e2 := (hol.lt q hq).1
            omega)
          clear hb4 hol HIX3 HT3 HC3 HB3 CD
          by_cases hf : x'.b = false ∧ bl'.b = false
          · obtain ⟨hf1, hf2⟩ := hf
            have HRD2 := Lib.hid (HRD.out.step HE.out hf1 hf2 HD.out)
            rw [hf1, hf2]
            go_wp2_with fail
            have pF : F.length ≤ 1000000 := by have := HRD.out.lf; have := HRD.out.kx; omega
            have pB : Bk.length ≤ 1000000 := by have := HRD.out.lb; have := HRD.out.kx; omega
            have pC : C.length + Ln.length ≤ 1000000 := by have := HRD2.out.cl; rw [List.length_append] at this; omega
            obtain ⟨p18, hp18⟩ : ∃ p : P18, p = ⟨w, w1.heap.size, w1.heap.size + 1, x', bl', vB, vF, .slice ac C.length cc, Bk, F, C, fs, bk, al, Ln, cl, pF, pB, pC⟩ := ⟨_, rfl⟩
            have HSX : Hid (∀ (u5 u7 u8 u12 u14 u15 u18 : Value), Sx18 p18 false false false false false false false u5 u7 u8 u12 u14 u15 u18 w4.drew) := Lib.hid fun _ _ _ _ _ _ _ => by
              subst hp18
              exact ⟨vB, vF, .slice ac C.length cc, Bk, F, C, ⟨HT4.out.row, ⟨HIX4.out.row, HIX4.out.l1, HIX4.out.l2⟩, HT4.out.b, HT4.out.f, HC4.out, HT4.out.ne, HB4.out.drew⟩, (fun e => by cases e), (fun e => by cases e), (fun _ => ⟨rfl, rfl⟩), (fun e => by cases e), (fun _ => ⟨rfl, rfl⟩), (fun e => by cases e), (fun _ => ⟨rfl, rfl, w3.heap.size, HL4.out, HAP.out⟩), (fun e => by cases e), (fun e => by cases e), (fun e => by cases e)⟩
            subst hp18
            refine wp_region_any (by kernel_rfl) ?_
            change wpAny _ _ _ _ _ _ _ (World.drew _)
            refine wpAny_take (i := 0) (oi := { dst := some 74, op := Op.move (Operand.tmp 8), type := 59, pos := "tables.go:117", after := #[], guard := none }) (v := ?_) rfl (by kernel_rfl) (by kernel_rfl) (by kernel_rfl) (fun _ _ _ h => h) (Or.inl ⟨by rfl, ?_⟩) ?_
            rotate_left
            · (intro w; go_simp); (first | done | with_reducible rfl)
            try simp only [Act.put, List.setIfInBounds_toArray, List.set_cons_zero, List.set_cons_succ]
            refine wpAny_take (i := 1) (oi := { dst := some 75, op := Op.move (Operand.tmp 8), type := 59, pos := "tables.go:117", after := #[{ on := 21, ground := Ground.gcOnly Departure.lateStores }], guard := none }) (v := ?_) rfl (by kernel_rfl) (by kernel_rfl) (by kernel_rfl) (fun _ _ _ h => h) (Or.inl ⟨by rfl, ?_⟩) ?_
            rotate_left
            · (intro w; go_simp); (first | done | with_reducible rfl)
            try simp only [Act.put, List.setIfInBounds_toArray, List.set_cons_zero, List.set_cons_succ]
            refine wpAny_take (i := 2) (oi := { dst := some 76, op := Op.move (Operand.tmp 8), type := 59, pos := "tables.go:117", after := #[], guard := none }) (v := ?_) rfl (by kernel_rfl) (by kernel_rfl) (by kernel_rfl) (fun _ _ _ h => h) (Or.inl ⟨by rfl, ?_⟩) ?_
            rotate_left
            · (intro w; go_simp); (first | done | with_reducible rfl)
            try simp only [Act.put, List.setIfInBounds_toArray, List.set_cons_zero, List.set_cons_succ]
            refine wpAny_take (i := 3) (oi := { dst := some 77, op := Op.nilCheck (Operand.tmp 76), type := 0, pos := "tables.go:117", after := #[{ on := 2, ground := Ground.data }], guard := none }) (v := ?_) rfl (by kernel_rfl) (by kernel_rfl) (by kernel_rfl) (fun _ _ _ h => h) (Or.inl ⟨by rfl, ?_⟩) ?_
            rotate_left
            · (intro w; go_simp); (first | done | with_reducible rfl)
            try simp only [Act.put, List.setIfInBounds_toArray, List.set_cons_zero, List.set_cons_succ]
            refine wpAny_take (i := 4) (oi := { dst := some 78, op := Op.fieldAddr 99 (Operand.tmp 77) 1, type := 0, pos := "tables.go:117", after := #[{ on := 3, ground := Ground.data }], guard := none }) (v := ?_) rfl (by kernel_rfl) (by kernel_rfl) (by kernel_rfl) (fun _ _ _ h => h) (Or.inl ⟨by rfl, ?_⟩) ?_
            rotate_left
            · (intro w; go_simp); (first | done | with_reducible rfl)
            try simp only [Act.put, List.setIfInBounds_toArray, List.set_cons_zero, List.set_cons_succ]
            refine wpAny_take (i := 6) (oi := { dst := some 80, op := Op.move (Operand.tmp 11), type := 9, pos := "tables.go:117", after := #[], guard := none }) (v := ?_) rfl (by kernel_rfl) (by kernel_rfl) (by kernel_rfl) (fun _ _ _ h => h) (Or.inl ⟨by rfl, ?_⟩) ?_
            rotate_left
            · (intro w; go_simp); (first | done | with_reducible rfl)
            try simp only [Act.put, List.setIfInBounds_toArray, List.set_cons_zero, List.set_cons_succ]
            refine wpAny_take (i := 9) (oi := { dst := some 83, op := Op.move (Operand.tmp 8), type := 59, pos := "tables.go:117", after := #[], guard := none }) (v := ?_) rfl (by kernel_rfl) (by kernel_rfl) (by kernel_rfl) (fun _ _ _ h => h) (Or.inl ⟨by rfl, ?_⟩) ?_
            rotate_left
            · (intro w; go_simp); (first | done | with_reducible rfl)
            try simp only [Act.put, List.setIfInBounds_toArray, List.set_cons_zero, List.set_cons_succ]
            refine wpAny_take (i := 10) (oi := { dst := some 84, op := Op.nilCheck (Operand.tmp 83), type := 0, pos := "tables.go:117", after := #[{ on := 9, ground := Ground.data }], guard := none }) (v := ?_) rfl (by kernel_rfl) (by kernel_rfl) (by kernel_rfl) (fun _ _ _ h => h) (Or.inl ⟨by rfl, ?_⟩) ?_
            rotate_left
            · (intro w; go_simp); (first | done | with_reducible rfl)
            try simp only [Act.put, List.setIfInBounds_toArray, List.set_cons_zero, List.set_cons_succ]
            refine wpAny_take (i := 11) (oi := { dst := some 85, op := Op.fieldAddr 99 (Operand.tmp 84) 0, type := 0, pos := "tables.go:117", after := #[{ on := 10, ground := Ground.data }], guard := none }) (v := ?_) rfl (by kernel_rfl) (by kernel_rfl) (by kernel_rfl) (fun _ _ _ h => h) (Or.inl ⟨by rfl, ?_⟩) ?_
            rotate_left
            · (intro w; go_simp); (first | done | with_reducible rfl)
            try simp only [Act.put, List.setIfInBounds_toArray, List.set_cons_zero, List.set_cons_succ]
            refine wpAny_take (i := 13) (oi := { dst := some 87, op := Op.move (Operand.tmp 12), type := 9, pos := "tables.go:117", after := #[], guard := none }) (v := ?_) rfl (by kernel_rfl) (by kernel_rfl) (by kernel_rfl) (fun _ _ _ h => h) (Or.inl ⟨by rfl, ?_⟩) ?_
            rotate_left
            · (intro w; go_simp); (first | done | with_reducible rfl)
            try simp only [Act.put, List.setIfInBounds_toArray, List.set_cons_zero, List.set_cons_succ]
            refine wpAny_take (i := 16) (oi := { dst := some 90, op := Op.move (Operand.tmp 9), type := 22, pos := "tables.go:117", after := #[], guard := none }) (v := ?_) rfl (by kernel_rfl) (by kernel_rfl) (by kernel_rfl) (fun _ _ _ h => h) (Or.inl ⟨by rfl, ?_⟩) ?_
            rotate_left
            · (intro w; go_simp); (first | done | with_reducible rfl)
            try simp only [Act.put, List.setIfInBounds_toArray, List.set_cons_zero, List.set_cons_succ]
            refine wpAny_take (i := 17) (oi := { dst := some 91, op := Op.move (Operand.tmp 14), type := 22, pos := "tables.go:117", after := #[], guard := none }) (v := ?_) rfl (by kernel_rfl) (by kernel_rfl) (by kernel_rfl) (fun _ _ _ h => h) (Or.inl ⟨by rfl, ?_⟩) ?_
            rotate_left
            · (intro w; go_simp); (first | done | with_reducible rfl)
            try simp only [Act.put, List.setIfInBounds_toArray, List.set_cons_zero, List.set_cons_succ]
            refine wpAny_walk lst18 nx18 m18 7 (false, false, false, false, false, false, false) (J18 ⟨w, w1.heap.size, w1.heap.size + 1, x', bl', vB, vF, .slice ac C.length cc, Bk, F, C, fs, bk, al, Ln, cl, pF, pB, pC⟩) (all7_spec (by kernel_rfl)) (by kernel_rfl) rfl ?_ ?_ ?_
            · exact ⟨rfl, _, _, _, _, _, _, _, put18_self _, HSX.out _ _ _ _ _ _ _⟩
            · rintro ⟨f5, f7, f8, f12, f14, f15, f18⟩ aq wq ⟨hgood, x5, x7, x8, x12, x14, x15, x18, rfl, hS⟩ q hq
              have hgd : good18 (f5, f7, f8, f12, f14, f15, f18) = true := hgood
              simp only [nx18, hgd, if_true, List.mem_append, mem_opt1] at hq
              have HS := Lib.hid hS
              clear hS hgood
              simp only [put18, Act.put, List.setIfInBounds_toArray, List.set_cons_zero, List.set_cons_succ]
              rcases hq with (((((⟨hb, rfl⟩ | ⟨hb, rfl⟩) | ⟨hb, rfl⟩) | ⟨hb, rfl⟩) | ⟨hb, rfl⟩) | ⟨hb, rfl⟩) | ⟨hb, rfl⟩
              · have HG := Lib.hid (good18_5 hgd hb)
                simp only [Bool.not_eq_true'] at hb
                have c0 : wq.cell? ⟨w1.heap.size + 1, 1, none⟩ = some vF := HS.out.cell1
                clear hb hgd
                refine wpOp_step (o := { dst := some 79, op := Op.load 73 (Operand.tmp 78), type := 73, pos := "tables.go:117", after := #[{ on := 4, ground := Ground.data }], guard := none }) rfl (fun K hK => ?_)
                go_simp
                exact hK _ _ ⟨HG.out, vF, x7, x8, x12, x14, x15, x18, by simp only [put18, Act.put, List.setIfInBounds_toArray, List.set_cons_zero, List.set_cons_succ], HS.out.z5⟩
              · have HG := Lib.hid (good18_7 hgd hb)
                simp only [Bool.not_eq_true'] at hb
                subst hb
                clear hgd
                refine wpOp_step (o := { dst := some 81, op := Op.buildSlice 73 1 #[(0, Operand.tmp 80)], type := 73, pos := "tables.go:117", after := #[{ on := 6, ground := Ground.data }], guard := none }) rfl (fun K hK => ?_)
                go_simp
                exact hK _ _ ⟨HG.out, x5, _, x8, x12, x14, x15, x18, by simp only [put18, Act.put, List.setIfInBounds_toArray, List.set_cons_zero, List.set_cons_succ], HS.out.z7⟩
              · have HG := Lib.hid (good18_8 hgd hb)
                simp only [Bool.and_eq_true, Bool.not_eq_true'] at hb
                obtain ⟨⟨rfl, rfl⟩, rfl⟩ := hb
                clear hgd
                obtain ⟨v', w', hrun, hS'⟩ := HS.out.z8
                refine wpOp_step (o := { dst := some 82, op := Op.call { callee := Callee.builtin Builtin.append, args := #[Operand.tmp 79, Operand.tmp 81], argTypes := #[73, 73] }, type := 73, pos := "tables.go:117", after := #[{ on := 5, ground := Ground.data }, { on := 7, ground := Ground.data }], guard := none }) rfl (fun K hK => ?_)
                refine step_append_run (by rfl) (Operand.tmp 79) (Operand.tmp 81) 73 (by rfl) (by rfl) (by rfl) hrun (hK _ _ ?_)
                exact ⟨HG.out, x5, x7, v', x12, x14, x15, x18, by simp only [put18, Act.put, List.setIfInBounds_toArray, List.set_cons_zero, List.set_cons_succ], hS'⟩
              · have HG := Lib.hid (good18_12 hgd hb)
                simp only [Bool.not_eq_true'] at hb
                have c0 : wq.cell? ⟨w1.heap.size + 1, 0, none⟩ = some vB := HS.out.cell0
                clear hb hgd
                refine wpOp_step (o := { dst := some 86, op := Op.load 73 (Operand.tmp 85), type := 73, pos := "tables.go:117", after := #[{ on := 11, ground := Ground.data }], guard := none }) rfl (fun K hK => ?_)
                go_simp
                exact hK _ _ ⟨HG.out, x5, x7, x8, vB, x14, x15, x18, by simp only [put18, Act.put, List.setIfInBounds_toArray, List.set_cons_zero, List.set_cons_succ], HS.out.z12⟩
              · have HG := Lib.hid (good18_14 hgd hb)
                simp only [Bool.not_eq_true'] at hb
                subst hb
                clear hgd
                refine wpOp_step (o := { dst := some 88, op := Op.buildSlice 73 1 #[(0, Operand.tmp 87)], type := 73, pos := "tables.go:117", after := #[{ on := 13, ground := Ground.data }], guard := none }) rfl (fun K hK => ?_)
                go_simp
                exact hK _ _ ⟨HG.out, x5, x7, x8, x12, _, x15, x18, by simp only [put18, Act.put, List.setIfInBounds_toArray, List.set_cons_zero, List.set_cons_succ], HS.out.z14⟩
              · have HG := Lib.hid (good18_15 hgd hb)
                simp only [Bool.and_eq_true, Bool.not_eq_true'] at hb
                obtain ⟨⟨⟨rfl, rfl⟩, rfl⟩, rfl⟩ := hb
                clear hgd
                obtain ⟨v', w', hrun, hS'⟩ := HS.out.z15
                refine wpOp_step (o := { dst := some 89, op := Op.call { callee := Callee.builtin Builtin.append, args := #[Operand.tmp 86, Operand.tmp 88], argTypes := #[73, 73] }, type := 73, pos := "tables.go:117", after := #[{ on := 12, ground := Ground.data }, { on := 14, ground := Ground.data }, { on := 8, ground := Ground.chain }], guard := none }) rfl (fun K hK => ?_)
                refine step_append_run (by rfl) (Operand.tmp 86) (Operand.tmp 88) 73 (by rfl) (by rfl) (by rfl) hrun (hK _ _ ?_)
                exact ⟨HG.out, x5, x7, x8, x12, x14, v', x18, by simp only [put18, Act.put, List.setIfInBounds_toArray, List.set_cons_zero, List.set_cons_succ], hS'⟩
              · have HG := Lib.hid (good18_18 hgd hb)
                simp only [Bool.and_eq_true, Bool.not_eq_true'] at hb
                obtain ⟨rfl, rfl⟩ := hb
                clear hgd
                obtain ⟨v', w', hrun, hS'⟩ := HS.out.z18
                refine wpOp_step (o := { dst := some 92, op := Op.call { callee := Callee.builtin Builtin.append, args := #[Operand.tmp 90, Operand.tmp 91], argTypes := #[22, 22] }, type := 22, pos := "tables.go:117", after := #[{ on := 16, ground := Ground.data }, { on := 17, ground := Ground.data }, { on := 15, ground := Ground.chain }], guard := none }) rfl (fun K hK => ?_)
                refine step_append_run (by rfl) (Operand.tmp 90) (Operand.tmp 91) 22 (by rfl) (by rfl) (by rfl) hrun (hK _ _ ?_)
                exact ⟨HG.out, x5, x7, x8, x12, x14, x15, v', by simp only [put18, Act.put, List.setIfInBounds_toArray, List.set_cons_zero, List.set_cons_succ], hS'⟩
            · rintro ⟨f5, f7, f8, f12, f14, f15, f18⟩ aq wq hnx ⟨hgood, x5, x7, x8, x12, x14, x15, x18, rfl, hS⟩
              obtain ⟨rfl, rfl, rfl, rfl, rfl, rfl, rfl⟩ := fin18 hgood hnx
              have HS := Lib.hid hS
              clear hS hgood hnx
              simp only [put18, Act.put, List.setIfInBounds_toArray, List.set_cons_zero, List.set_cons_succ]
              obtain ⟨vB', vF', vC', Bk', F', C', hs⟩ := HS.out
              obtain ⟨rfl, rfl⟩ := hs.a1 rfl
              obtain ⟨rfl, rfl⟩ := hs.b1 rfl
              obtain ⟨rfl, rfl⟩ := hs.c1 rfl
              have HX := Lib.hid hs.rs
              clear hs HS
              have n0 : wq.frozen? ⟨w1.heap.size + 1, 0, none⟩ = false := HX.out.row.free 0
              have n1 : wq.frozen? ⟨w1.heap.size + 1, 1, none⟩ = false := HX.out.row.free 1
              have y0 : wq.cell? ⟨w1.heap.size + 1, 0, none⟩ = some vB := HX.out.row.cell 0
              have y1 : wq.cell? ⟨w1.heap.size + 1, 1, none⟩ = some vF := HX.out.row.cell 1
              obtain ⟨ac2, cc2, rfl⟩ := ownP_shape HX.out.c
              obtain ⟨af2, cf2, rfl⟩ := ownP_shape HX.out.f
              obtain ⟨ab2, cb2, rfl⟩ := ownP_shape HX.out.b
              change wpAny _ _ _ _ 7 _ _ _
              refine wpAny_take (i := 19) (oi := { dst := some 93, op := Op.nilCheck (Operand.tmp 74), type := 0, pos := "tables.go:117", after := #[{ on := 0, ground := Ground.data }, { on := 0, ground := Ground.phase }, { on := 1, ground := Ground.textOnly Departure.lateStores }, { on := 2, ground := Ground.phase }, { on := 3, ground := Ground.phase }, { on := 4, ground := Ground.phase }, { on := 5, ground := Ground.phase }, { on := 6, ground := Ground.phase }, { on := 7, ground := Ground.phase }, { on := 8, ground := Ground.phase }, { on := 9, ground := Ground.textOnly Departure.lateStores }, { on := 10, ground := Ground.textOnly Departure.lateStoresUnsure }, { on := 11, ground := Ground.textOnly Departure.lateStoresUnsure }, { on := 12, ground := Ground.phase }, { on := 13, ground := Ground.textOnly Departure.lateStores }, { on := 14, ground := Ground.textOnly Departure.lateStoresUnsure }, { on := 15, ground := Ground.phase }, { on := 16, ground := Ground.textOnly Departure.lateStores }, { on := 17, ground := Ground.textOnly Departure.lateStores }, { on := 18, ground := Ground.phase }], guard := none }) (v := ?_) rfl (by kernel_rfl) (by kernel_rfl) (by kernel_rfl) (fun _ _ _ h => h) (Or.inl ⟨by rfl, ?_⟩) ?_
              rotate_left
              · (intro w; go_simp); (first | done | with_reducible rfl)
              try simp only [Act.put, List.setIfInBounds_toArray, List.set_cons_zero, List.set_cons_succ]
              refine wpAny_take (i := 20) (oi := { dst := some 94, op := Op.fieldAddr 99 (Operand.tmp 93) 1, type := 0, pos := "tables.go:117", after := #[{ on := 19, ground := Ground.data }, { on := 0, ground := Ground.phase }, { on := 1, ground := Ground.textOnly Departure.lateStores }, { on := 2, ground := Ground.phase }, { on := 3, ground := Ground.phase }, { on := 4, ground := Ground.phase }, { on := 5, ground := Ground.phase }, { on := 6, ground := Ground.phase }, { on := 7, ground := Ground.phase }, { on := 8, ground := Ground.phase }, { on := 9, ground := Ground.textOnly Departure.lateStores }, { on := 10, ground := Ground.textOnly Departure.lateStoresUnsure }, { on := 11, ground := Ground.textOnly Departure.lateStoresUnsure }, { on := 12, ground := Ground.phase }, { on := 13, ground := Ground.textOnly Departure.lateStores }, { on := 14, ground := Ground.textOnly Departure.lateStoresUnsure }, { on := 15, ground := Ground.phase }, { on := 16, ground := Ground.textOnly Departure.lateStores }, { on := 17, ground := Ground.textOnly Departure.lateStores }, { on := 18, ground := Ground.phase }], guard := none }) (v := ?_) rfl (by kernel_rfl) (by kernel_rfl) (by kernel_rfl) (fun _ _ _ h => h) (Or.inl ⟨by rfl, ?_⟩) ?_
              rotate_left
              · (intro w; go_simp); (first | done | with_reducible rfl)
              try simp only [Act.put, List.setIfInBounds_toArray, List.set_cons_zero, List.set_cons_succ]
              refine wpAny_ready (rs := [21]) (by kernel_rfl) (by simp) ?_
              refine AllReady.cons (o := { dst := none, op := Op.store 73 (Operand.tmp 94) (Operand.tmp 82), type := 0, pos := "tables.go:117", after := #[{ on := 20, ground := Ground.data }, { on := 8, ground := Ground.data }, { on := 18, ground := Ground.chain }, { on := 0, ground := Ground.phase }, { on := 1, ground := Ground.textOnly Departure.lateStores }, { on := 2, ground := Ground.phase }, { on := 3, ground := Ground.phase }, { on := 4, ground := Ground.phase }, { on := 5, ground := Ground.phase }, { on := 6, ground := Ground.phase }, { on := 7, ground := Ground.phase }, { on := 8, ground := Ground.phase }, { on := 9, ground := Ground.textOnly Departure.lateStores }, { on := 10, ground := Ground.textOnly Departure.lateStoresUnsure }, { on := 11, ground := Ground.textOnly Departure.lateStoresUnsure }, { on := 12, ground := Ground.phase }, { on := 13, ground := Ground.textOnly Departure.lateStores }, { on := 14, ground := Ground.textOnly Departure.lateStoresUnsure }, { on := 15, ground := Ground.phase }, { on := 16, ground := Ground.textOnly Departure.lateStores }, { on := 17, ground := Ground.textOnly Departure.lateStores }, { on := 18, ground := Ground.phase }], guard := none }) rfl (fun K hK => ?_) AllReady.nil
              go_simp
              refine hK _ _ ?_
              clear hK K
              try simp only [Act.put, List.setIfInBounds_toArray, List.set_cons_zero, List.set_cons_succ]
              refine wpAny_take (i := 22) (oi := { dst := some 95, op := Op.nilCheck (Operand.tmp 75), type := 0, pos := "tables.go:117", after := #[{ on := 1, ground := Ground.data }, { on := 0, ground := Ground.phase }, { on := 1, ground := Ground.phase }, { on := 2, ground := Ground.phase }, { on := 3, ground := Ground.phase }, { on := 4, ground := Ground.phase }, { on := 5, ground := Ground.phase }, { on := 6, ground := Ground.phase }, { on := 7, ground := Ground.phase }, { on := 8, ground := Ground.phase }, { on := 9, ground := Ground.phase }, { on := 10, ground := Ground.phase }, { on := 11, ground := Ground.phase }, { on := 12, ground := Ground.phase }, { on := 13, ground := Ground.phase }, { on := 14, ground := Ground.phase }, { on := 15, ground := Ground.phase }, { on := 16, ground := Ground.textOnly Departure.lateStores }, { on := 17, ground := Ground.textOnly Departure.lateStores }, { on := 18, ground := Ground.phase }, { on := 19, ground := Ground.phase }, { on := 20, ground := Ground.phase }, { on := 21, ground := Ground.phase }], guard := none }) (v := ?_) rfl (by kernel_rfl) (by kernel_rfl) (by kernel_rfl) (fun _ _ _ h => h) (Or.inl ⟨by rfl, ?_⟩) ?_
              rotate_left
              · (intro w; go_simp); (first | done | with_reducible rfl)
              try simp only [Act.put, List.setIfInBounds_toArray, List.set_cons_zero, List.set_cons_succ]
              refine wpAny_take (i := 23) (oi := { dst := some 96, op := Op.fieldAddr 99 (Operand.tmp 95) 0, type := 0, pos := "tables.go:117", after := #[{ on := 22, ground := Ground.data }, { on := 0, ground := Ground.phase }, { on := 1, ground := Ground.phase }, { on := 2, ground := Ground.phase }, { on := 3, ground := Ground.phase }, { on := 4, ground := Ground.phase }, { on := 5, ground := Ground.phase }, { on := 6, ground := Ground.phase }, { on := 7, ground := Ground.phase }, { on := 8, ground := Ground.phase }, { on := 9, ground := Ground.phase }, { on := 10, ground := Ground.phase }, { on := 11, ground := Ground.phase }, { on := 12, ground := Ground.phase }, { on := 13, ground := Ground.phase }, { on := 14, ground := Ground.phase }, { on := 15, ground := Ground.phase }, { on := 16, ground := Ground.textOnly Departure.lateStores }, { on := 17, ground := Ground.textOnly Departure.lateStores }, { on := 18, ground := Ground.phase }, { on := 19, ground := Ground.phase }, { on := 20, ground := Ground.phase }, { on := 21, ground := Ground.phase }], guard := none }) (v := ?_) rfl (by kernel_rfl) (by kernel_rfl) (by kernel_rfl) (fun _ _ _ h => h) (Or.inl ⟨by rfl, ?_⟩) ?_
              rotate_left
              · (intro w; go_simp); (first | done | with_reducible rfl)
              try simp only [Act.put, List.setIfInBounds_toArray, List.set_cons_zero, List.set_cons_succ]
              refine wpAny_ready (rs := [24]) (by kernel_rfl) (by simp) ?_
              refine AllReady.cons (o := { dst := none, op := Op.store 73 (Operand.tmp 96) (Operand.tmp 89), type := 0, pos := "tables.go:117", after := #[{ on := 23, ground := Ground.data }, { on := 15, ground := Ground.data }, { on := 21, ground := Ground.chain }, { on := 0, ground := Ground.phase }, { on := 1, ground := Ground.phase }, { on := 2, ground := Ground.phase }, { on := 3, ground := Ground.phase }, { on := 4, ground := Ground.phase }, { on := 5, ground := Ground.phase }, { on := 6, ground := Ground.phase }, { on := 7, ground := Ground.phase }, { on := 8, ground := Ground.phase }, { on := 9, ground := Ground.phase }, { on := 10, ground := Ground.phase }, { on := 11, ground := Ground.phase }, { on := 12, ground := Ground.phase }, { on := 13, ground := Ground.phase }, { on := 14, ground := Ground.phase }, { on := 15, ground := Ground.phase }, { on := 16, ground := Ground.textOnly Departure.lateStores }, { on := 17, ground := Ground.textOnly Departure.lateStores }, { on := 18, ground := Ground.phase }, { on := 19, ground := Ground.phase }, { on := 20, ground := Ground.phase }, { on := 21, ground := Ground.phase }], guard := none }) rfl (fun K hK => ?_) AllReady.nil
              go_simp
              refine hK _ _ ?_
              clear hK K
              try simp only [Act.put, List.setIfInBounds_toArray, List.set_cons_zero, List.set_cons_succ]
              refine wpAny_take (i := 25) (oi := { dst := some 9, op := Op.assign (Operand.tmp 92), type := 22, pos := "tables.go:117", after := #[{ on := 18, ground := Ground.data }, { on := 24, ground := Ground.chain }, { on := 0, ground := Ground.phase }, { on := 1, ground := Ground.phase }, { on := 2, ground := Ground.phase }, { on := 3, ground := Ground.phase }, { on := 4, ground := Ground.phase }, { on := 5, ground := Ground.phase }, { on := 6, ground := Ground.phase }, { on := 7, ground := Ground.phase }, { on := 8, ground := Ground.phase }, { on := 9, ground := Ground.phase }, { on := 10, ground := Ground.phase }, { on := 11, ground := Ground.phase }, { on := 12, ground := Ground.phase }, { on := 13, ground := Ground.phase }, { on := 14, ground := Ground.phase }, { on := 15, ground := Ground.phase }, { on := 16, ground := Ground.phase }, { on := 17, ground := Ground.phase }, { on := 18, ground := Ground.phase }, { on := 19, ground := Ground.phase }, { on := 20, ground := Ground.phase }, { on := 21, ground := Ground.phase }, { on := 22, ground := Ground.phase }, { on := 23, ground := Ground.phase }, { on := 24, ground := Ground.phase }], guard := none }) (v := ?_) rfl (by kernel_rfl) (by kernel_rfl) (by kernel_rfl) (fun _ _ _ h => h) (Or.inl ⟨by rfl, ?_⟩) ?_
              rotate_left
              · (intro w; go_simp); (first | done | with_reducible rfl)
              try simp only [Act.put, List.setIfInBounds_toArray, List.set_cons_zero, List.set_cons_succ]
              refine wpAny_done (by kernel_rfl) ?_ _
              have e1 : (F ++ [fs]).length = F.length + 1 := by simp
              have e2 : (Bk ++ [bk]).length = Bk.length + 1 := by simp
              have e3 : (C ++ Ln).length = C.length + Ln.length := by simp
              have hwf : wq.ownsRow w.heap.size 9 1 (.slice af2 (F ++ [fs]).length cf2) (F ++ [fs]).length (txs10 (F ++ [fs])) := HX.out.f
              have hwb : wq.ownsRow w.heap.size 9 1 (.slice ab2 (Bk ++ [bk]).length cb2) (Bk ++ [bk]).length (txs10 (Bk ++ [bk])) := HX.out.b
              have hwc : wq.ownsRow w.heap.size 38 3 (.slice ac2 (C ++ Ln).length cc2) (C ++ Ln).length (cls (C ++ Ln)) := HX.out.c
              have hof := (onlyS_set (A := fun k => k = w1.heap.size + 1) wq (w1.heap.size + 1) 1 (.slice af2 (F.length + 1) cf2) rfl).trans (onlyS_set (A := fun k => k = w1.heap.size + 1) _ (w1.heap.size + 1) 0 (.slice ab2 (Bk.length + 1) cb2) rfl)
              have hrow : RowIn #[vB, vF, .int .i64 0] 99 wq (w1.heap.size + 1) := HX.out.row
              have hidx : IdxAt w1.heap.size x' bl' wq := HX.out.idx
              have hne : ∀ q, (Value.slice ab2 (Bk.length + 1) cb2).ownBlock = some q → (Value.slice af2 (F.length + 1) cf2).ownBlock ≠ some q := by
                have := HX.out.ne
                rw [← e1, ← e2]
                exact this
              have hbel : Below w.heap.size w wq := HX.out.bel
              have HT5 := Lib.hid (show TabRow w.heap.size (w1.heap.size + 1) (.slice ab2 (Bk.length + 1) cb2) (.slice af2 (F.length + 1) cf2) (Bk ++ [bk]) (F ++ [fs]) 0 ((wq.setCell ⟨w1.heap.size + 1, 1, none⟩ (.slice af2 (F.length + 1) cf2)).setCell ⟨w1.heap.size + 1, 0, none⟩ (.slice ab2 (Bk.length + 1) cb2)) from
                ⟨(hrow.set 1 _).set 0 _, by rw [← e1, ← e2]; rw [← e1, ← e2] at hof; exact hof.own hwb (fun q hq e => row_apart hrow hwb (by decide) q hq e), by rw [← e1, ← e2]; rw [← e1, ← e2] at hof; exact hof.own hwf (fun q hq e => row_apart hrow hwf (by decide) q hq e), hne⟩)
              have HI5 := Lib.hid (show IdxAt w1.heap.size x' bl' ((wq.setCell ⟨w1.heap.size + 1, 1, none⟩ (.slice af2 (F.length + 1) cf2)).setCell ⟨w1.heap.size + 1, 0, none⟩ (.slice ab2 (Bk.length + 1) cb2)) from ⟨hof.row hidx.row (by omega), hidx.l1, hidx.l2⟩)
              have HC5 := Lib.hid (hof.own hwc (fun q hq e => row_apart hrow hwc (by decide) q hq e))
              have HB5 := Lib.hid (hbel.trans (hof.below (B := w.heap.size) (fun k hk => by have := HW1.out; omega) hbel.size))
              have HE3 := Lib.hid e3
              clear e1 e2 e3 hwf hwb hwc hof hrow hidx hne hbel n0 n1 y0 y1 HX
              go_wp2_with fail
              go_roundw
              case rel => exact ⟨k + 1, m, x', bl', C ++ Ln, Bk ++ [bk], F ++ [fs], ac2, cc2, .slice ab2 (Bk.length + 1) cb2, .slice af2 (F.length + 1) cf2, by go_num, by rw [HE3.out], by omega, HRD2, HI5, HT5, HC5, HB5⟩
              case measure => simp [intOf]
          · have HN := Lib.hid (HRD.out.bad HE.out (by cases h1 : x'.b <;> cases h2 : bl'.b <;> simp_all))
            have HN2 := Lib.hid (HNO.out HN.out w4 HB4.out)
            have hf' : (!x'.b && !bl'.b) = false := by cases h1 : x'.b <;> cases h2 : bl'.b <;> simp_all
            rw [hf']
            clear hf hf'
            go_wp2_with fail
            go_ret2
            exact HN2.out
      · obtain rfl : n = 0 := by omega
        have d1 : decide ((0 : Int) < ((0 : Nat) : Int)) = false := by simp
        have d2 : decide ((0 : Int) < 0) = false := by simp
        have hcap : C.length ≤ cc := by
          rcases HCO.out.2 with ⟨e, h0⟩ | ⟨g, cap', cur, e, _, _, hc, _⟩
          · rw [h0]; exact Nat.zero_le _
          · injection e with e1 e2 e3; omega
        have CB := Lib.hid (build10_any C (by have := HRD.out.cl; omega) ac cc hcap wr (clsAt_own HCO.out rfl) HRD.out.ok)
        unfold BuildR at CB
        have HY := Lib.hid (fun (hb : M.srt none C = false ∨ 4096 < C.length ∨ M.tableT C ≠ t) w' hb' => HNO.out (HRD.out.finBad hb) w' (below_step HBR.out hb'))
        clear hcap
        go_wp2_with fail
        cases hs : M.srt none C with
        | false =>
          rw [bE_no hs] at CB
          with_reducible refine (CB.out).mono ?_
          rintro e w3 ⟨rfl, hb3⟩
          have HN := Lib.hid (HY.out (.inl hs) w3 hb3)
          clear hb3 hs
          go_wp2_with fail
          go_ret2
          exact HN.out
        | true =>
          by_cases hl : 4096 < C.length
          · rw [bE_long hs hl] at CB
            with_reducible refine (CB.out).mono ?_
            rintro e w3 ⟨rfl, hb3⟩
            have HN := Lib.hid (HY.out (.inr (.inl hl)) w3 hb3)
            clear hb3 hs hl
            go_wp2_with fail
            go_ret2
            exact HN.out
          · rw [bE_ok hs hl] at CB
            by_cases hq : M.tableT C = t
            · obtain ⟨hi, hF, hB⟩ := HRD.out.fin hs hl hq
              have HI := Lib.hid hi
              rw [hq] at CB
              with_reducible refine (CB.out).mono ?_
              rintro e w3 ⟨rfl, hb3⟩
              have HT5 := Lib.hid (HTB.out.below hb3)
              have HB5 := Lib.hid (below_step HBR.out hb3)
              have q5 : (t == t) = true := by simp
              have q6 : (t != t) = false := by simp
              have n2 : w3.frozen? ⟨w1.heap.size + 1, 2, none⟩ = false := HT5.out.row.free 2
              have y2 : w3.cell? ⟨w1.heap.size + 1, 2, none⟩ = some (.int .i64 0) := HT5.out.row.cell 2
              have hof := onlyS_set (A := fun k => k = w1.heap.size + 1) w3 (w1.heap.size + 1) 2 (.int .i64 C.length) rfl
              have HT6 := Lib.hid (show TabAt C (w1.heap.size + 1) (w3.setCell ⟨w1.heap.size + 1, 2, none⟩ (.int .i64 C.length)) from
                ⟨w.heap.size, vB, vF, HT5.out.row.set 2 _, by rw [← hB]; exact hof.own HT5.out.b (fun q hq e => row_apart HT5.out.row HT5.out.b (by decide) q hq e), by rw [← hF]; exact hof.own HT5.out.f (fun q hq e => row_apart HT5.out.row HT5.out.f (by decide) q hq e), HT5.out.ne⟩)
              have HB6 := Lib.hid (HB5.out.trans (hof.below (B := w.heap.size) (fun k hk => by have := HW1.out; omega) HB5.out.size))
              clear hb3 hs hl hq hF hB hof hi HT5
              go_wp2_with fail
              go_ret2
              exact openR10_some HI.out HT6.out HB6.out
            · have q5 : (M.tableT C == t) = false := by simpa using hq
              have q6 : (M.tableT C != t) = true := by simpa using hq
              with_reducible refine (CB.out).mono ?_
              rintro e w3 ⟨rfl, hb3⟩
              have HN := Lib.hid (HY.out (.inr (.inr hq)) w3 hb3)
              clear hb3 hs hl hq
              go_wp2_with fail
              go_ret2
              exact HN.out

end Go.Proofs.YtnhljlmelbiljaaGreat

/- Layer 10: where in a table a key may begin, by contracts. -/
namespace Go.Proofs.YtnhljlmelbiljaaGreat
set_option linter.unusedVariables false
open Go Go.RowKit
attribute [local go_sem ↓] run_index_S
attribute [local go_sem] S_append S_extract

theorem own_slice10 {w : World} {B n sz : Nat} {e : TypeId} {v : Value} {xs : List Value} (h : w.ownsRow B e sz v n xs) (hn : 0 < n) : ∃ g cap, v = .slice (some ⟨g, 0, none⟩) n cap ∧ n ≤ cap ∧ ∀ j u, xs[j]? = some u → w.cell? ⟨g, j, none⟩ = some u := by
  rcases h.2 with ⟨_, h0⟩ | ⟨g, cap, cur, rfl, hB, hg, hc, _⟩
  · omega
  · refine ⟨g, cap, rfl, hc, fun j u hu => ?_⟩
    have := h.cells (g := g) rfl j u hu
    rwa [Addr.add_lit, Nat.zero_add] at this
theorem txs10_get {ps : List (List UInt8)} {i : Nat} (h : i < ps.length) : (txs10 ps)[i]? = some (.string (S (ps.getD i []))) := by
  simp [txs10, List.getD, h]
/-- Does a block begin at the key, or behind it? -/
def M.beg (F : List (List UInt8)) (key : List UInt8) (i : Nat) : Bool := !Op.bytesLess (F.getD i []) key
set_option maxHeartbeats 2000000 in
set_option maxRecDepth 100000 in
theorem begins10_any (B p : Nat) (vB vF : Value) (Bk F : List (List UInt8)) (n : Int) (key : List UInt8) (i : Nat) (w : World) (h : TabRow B p vB vF Bk F n w) (hi : i < F.length) (hF : F.length ≤ 1000000) :
    Calls Tryz.prog 83 #[.agg #[.pointer (some ⟨p, 0, none⟩), .string (S key)], .int .i64 i] w fun e w' => e = .returned (.bool (M.beg F key i)) ∧ Below w.heap.size w w' := by
  obtain ⟨g, cap, rfl, hc, hcell⟩ := own_slice10 h.f (by omega)
  have hb := (Below.refl w.heap.size w).alloc (Nat.le_refl _) (.cells #[.pointer (some ⟨p, 0, none⟩), .string (S key)] 146)
  have hn := rowIn_new #[.pointer (some ⟨p, 0, none⟩), .string (S key)] 146 w
  have c0 : (w.alloc (.cells #[.pointer (some ⟨p, 0, none⟩), .string (S key)] 146)).cell? ⟨w.heap.size, 0, none⟩ = some (.pointer (some ⟨p, 0, none⟩)) := hn.cell 0
  have c1 : (w.alloc (.cells #[.pointer (some ⟨p, 0, none⟩), .string (S key)] 146)).cell? ⟨w.heap.size, 1, none⟩ = some (.string (S key)) := hn.cell 1
  have c2 : (w.alloc (.cells #[.pointer (some ⟨p, 0, none⟩), .string (S key)] 146)).cell? ⟨p, 1, none⟩ = some (.slice (some ⟨g, 0, none⟩) F.length cap) := (h.row.below hb).cell 1
  have c3 : (w.alloc (.cells #[.pointer (some ⟨p, 0, none⟩), .string (S key)] 146)).cell? ⟨g, i, none⟩ = some (.string (S (F.getD i []))) := by
    have k := hcell i _ (txs10_get hi)
    exact (hb.cell (p := ⟨g, i, none⟩) (block_lt_of_cell k)).trans k
  have hii : (i : Int) < (F.length : Int) := by omega
  have HB := Lib.hid hb
  have HE : Hid (M.beg F key i = !Op.bytesLess (F.getD i []) key) := Lib.hid rfl
  clear hb hn h hcell
  generalize F.getD i [] = f at *
  go_enter Tryz.func83, Tryz.ntmps83
  go_wp2_with fail
  go_quiet (fail)
  go_wp2_with fail
  go_ret
  exact ⟨by rw [HE.out]; rfl, below_drewN HB.out _⟩
/-- The least place from which on it says yes. -/
def SearchR (q : Nat → Bool) (n : Nat) (w : World) (e : Ending) (w' : World) : Prop := ∃ r : Nat, e = .returned (.int .i64 r) ∧ r ≤ n ∧ (∀ k, k < r → q k = false) ∧ (∀ k, r ≤ k → k < n → q k = true) ∧ Below w.heap.size w w'
set_option maxHeartbeats 2000000 in
set_option maxRecDepth 100000 in
theorem search10_any (B p : Nat) (vB vF : Value) (Bk F : List (List UInt8)) (n : Int) (key : List UInt8) (w : World) (h : TabRow B p vB vF Bk F n w) (hF : F.length ≤ 1000000) (hm : ∀ a b, a ≤ b → b < F.length → M.beg F key a = true → M.beg F key b = true) :
    Calls Tryz.prog 41 #[.int .i64 F.length, .func (.func 83) #[.agg #[.pointer (some ⟨p, 0, none⟩), .string (S key)]] #[]] w fun e w' => SearchR (M.beg F key) F.length w e w' := by
  have HT := Lib.hid h
  have HB := Lib.hid (Below.refl w.heap.size w)
  have HM := Lib.hid hm
  clear h hm
  go_enter Tryz.func41, Tryz.ntmps41
  go_wp2_with fail
  go_loopw [5, 6] (fun vi vj wr => ∃ i j : Nat, i ≤ j ∧ j ≤ F.length ∧ vi = .int .i64 i ∧ vj = .int .i64 j ∧ Hid (∀ k, k < i → M.beg F key k = false) ∧ Hid (∀ k, j ≤ k → k < F.length → M.beg F key k = true) ∧ Hid (Below w.heap.size w wr)) (fun vi vj _ => (intOf vj).toNat - (intOf vi).toNat)
  case atStart => exact ⟨0, F.length, Nat.zero_le _, Nat.le_refl _, rfl, rfl, Lib.hid (fun k hk => by omega), Lib.hid (fun k h1 h2 => by omega), HB⟩
  case round =>
    obtain ⟨i, j, hij, hj, rfl, rfl, H1, H2, HBr⟩ := hrel
    clear HB
    by_cases hlt : i < j
    · have d1 : decide ((i : Int) < (j : Int)) = true := by simp; omega
      have d2 : decide (i < j) = true := by simp; omega
      obtain ⟨h, hh⟩ : ∃ h, h = (i + j) / 2 := ⟨_, rfl⟩
      have h1 : i ≤ h := by omega
      have h2 : h < j := by omega
      have hc : ((i : Int) + (j : Int)) / 2 = (h : Int) := by omega
      have CB := Lib.hid (begins10_any B p vB vF Bk F n key h wr (HT.out.below HBr.out) (by omega) hF)
      clear hh
      go_wp2_with fail
      with_reducible refine (CB.out).mono ?_
      rintro e w1 ⟨rfl, hb⟩
      have HB1 := Lib.hid (below_step HBr.out hb)
      clear hb CB hc
      cases hq : M.beg F key h with
      | true =>
        have HQ := Lib.hid hq
        clear hq
        go_wp2_with fail
        go_roundw
        case rel => exact ⟨i, h, h1, by omega, rfl, rfl, H1, Lib.hid (fun k k1 k2 => HM.out h k k1 k2 HQ.out), HB1⟩
        case measure => simp [intOf]; omega
      | false =>
        have HQ := Lib.hid hq
        clear hq
        go_wp2_with fail
        go_roundw
        case rel => exact ⟨h + 1, j, by omega, hj, by go_num, rfl, Lib.hid (fun k k1 => by
          cases hk : M.beg F key k with
          | false => rfl
          | true => have := HM.out k h (by omega) (by omega) hk; rw [HQ.out] at this; cases this), H2, HB1⟩
        case measure => simp [intOf]; omega
    · obtain rfl : i = j := by omega
      have d1 : decide ((i : Int) < (i : Int)) = false := by simp
      have d2 : decide (i < i) = false := by simp
      go_wp2_with fail
      go_ret
      exact ⟨i, rfl, hj, H1.out, H2.out, HBr.out⟩
theorem M.firsts_mono {L : List M.Cl} (h : M.srt none L = true) (key : List UInt8) : ∀ a b, a ≤ b → b < (M.firsts L (M.many L)).length → M.beg (M.firsts L (M.many L)) key a = true → M.beg (M.firsts L (M.many L)) key b = true := fun a b hab hb ha => by
  rw [M.firsts_len] at hb
  unfold M.beg at *
  rw [M.firsts_get L (by omega)] at ha
  rw [M.firsts_get L hb]
  have hbl : 4 * b < L.length := by unfold M.many at hb; omega
  have k := M.key_mono h (i := 4 * a) (j := 4 * b) (by omega) hbl
  cases q : Op.bytesLess (L.getD (4 * b) M.cl0).key key with
  | false => rfl
  | true => rw [M.le_less k q] at ha; cases ha
/-- The block at which one begins. -/
def M.startOk (L : List M.Cl) (key : List UInt8) (s : Nat) : Prop := s ≤ M.many L ∧ (s = 0 ∨ (4 * s < L.length ∧ Op.bytesLess (L.getD (4 * s) M.cl0).key key = true))
def StartR (L : List M.Cl) (key : List UInt8) (w : World) (e : Ending) (w' : World) : Prop := ∃ s : Nat, e = .returned (.int .i64 s) ∧ M.startOk L key s ∧ Below w.heap.size w w'
set_option maxHeartbeats 2000000 in
set_option maxRecDepth 100000 in
theorem start10_any (L : List M.Cl) (p : Nat) (key : List UInt8) (w : World) (h : TabAt L p w) (hs : M.srt none L = true) (hl : L.length ≤ 4096) :
    Calls Tryz.prog 59 #[.pointer (some ⟨p, 0, none⟩), .string (S key)] w fun e w' => StartR L key w e w' := by
  obtain ⟨B, vB, vF, hr⟩ := h
  have hm : M.many L ≤ 1024 := by unfold M.many; omega
  have CS := Lib.hid (search10_any B p vB vF (M.blksB L (M.many L)) (M.firsts L (M.many L)) L.length key w hr (by rw [M.firsts_len]; omega) (M.firsts_mono hs key))
  rw [M.firsts_len] at CS
  obtain ⟨ao, cap, rfl⟩ := ownP_shape hr.f
  have c1 : w.cell? ⟨p, 1, none⟩ = some (.slice ao (M.firsts L (M.many L)).length cap) := hr.row.cell 1
  rw [M.firsts_len] at c1
  have hmf : ∀ (fn : Fn) (first cap : Array Value) (w : World), (Instr.makeFunc fn first cap).run Tryz.prog w = .ok (.func fn first cap) w := fun _ _ _ _ => rfl
  have HF := Lib.hid (show ∀ k, k < M.many L → M.beg (M.firsts L (M.many L)) key k = false → 4 * k < L.length ∧ Op.bytesLess (L.getD (4 * k) M.cl0).key key = true from fun k hk hb => by
    unfold M.beg at hb
    rw [M.firsts_get L hk] at hb
    exact ⟨by unfold M.many at hk; omega, by simpa using hb⟩)
  clear hr
  go_enter Tryz.func59, Tryz.ntmps59
  go_wp2_with fail
  with_reducible refine (CS.out).mono ?_
  rintro e w1 ⟨r, rfl, hr, h1, h2, hb⟩
  have HB := Lib.hid hb
  have H1 := Lib.hid h1
  clear hb h1 h2 CS
  have hmx : max (0 : Int) ((r : Int) - 1) = ((r - 1 : Nat) : Int) := by omega
  go_wp2_with fail
  go_ret
  refine ⟨r - 1, rfl, ⟨by omega, ?_⟩, HB.out⟩
  by_cases h0 : r ≤ 1
  · exact .inl (by omega)
  · exact .inr (HF.out (r - 1) (by omega) (H1.out (r - 1) (by omega)))

end Go.Proofs.YtnhljlmelbiljaaGreat

/- Layer 10: the cells of a range, by contracts. -/
namespace Go.Proofs.YtnhljlmelbiljaaGreat
set_option linter.unusedVariables false
open Go Go.RowKit
attribute [local go_sem ↓] run_index_S
attribute [local go_sem] S_append S_extract

def RangeR10 (K : List M.Cl) (w : World) (e : Ending) (w' : World) : Prop := ∃ ao cap, e = .returned (.slice ao K.length cap) ∧ w'.ownsRow w.heap.size 38 3 (.slice ao K.length cap) K.length (cls K) ∧ Below w.heap.size w w'
theorem tabAt_blk {L : List M.Cl} {p : Nat} {w : World} (h : TabAt L p w) (hl : L.length ≤ 4096) : ∃ bo bc fo fc, w.cell? ⟨p, 0, none⟩ = some (.slice bo (M.many L) bc) ∧ w.cell? ⟨p, 1, none⟩ = some (.slice fo (M.many L) fc) ∧ w.cell? ⟨p, 2, none⟩ = some (.int .i64 L.length) ∧
    ∀ k, k < M.many L → ∃ bg fg, bo = some ⟨bg, 0, none⟩ ∧ fo = some ⟨fg, 0, none⟩ ∧ w.cell? ⟨bg, k, none⟩ = some (.string (S (M.encCs (M.blk L k)))) ∧ w.cell? ⟨fg, k, none⟩ = some (.string (S (L.getD (4 * k) M.cl0).key)) := by
  obtain ⟨B, vB, vF, hr⟩ := h
  obtain ⟨bo, bc, rfl⟩ := ownP_shape hr.b
  obtain ⟨fo, fc, rfl⟩ := ownP_shape hr.f
  have h0 : w.cell? ⟨p, 0, none⟩ = some (.slice bo (M.blksB L (M.many L)).length bc) := hr.row.cell 0
  have h1 : w.cell? ⟨p, 1, none⟩ = some (.slice fo (M.firsts L (M.many L)).length fc) := hr.row.cell 1
  rw [M.blksB_len] at h0
  rw [M.firsts_len] at h1
  refine ⟨bo, bc, fo, fc, h0, h1, hr.row.cell 2, fun k hk => ?_⟩
  obtain ⟨bg, bcap, e1, -, hb⟩ := own_slice10 hr.b (by rw [M.blksB_len]; omega)
  obtain ⟨fg, fcap, e2, -, hf⟩ := own_slice10 hr.f (by rw [M.firsts_len]; omega)
  injection e1 with e1
  injection e2 with e2
  refine ⟨bg, fg, e1, e2, ?_, ?_⟩
  · rw [hb k _ (txs10_get (by rw [M.blksB_len]; exact hk)), M.blksB_get L hk]
  · rw [hf k _ (txs10_get (by rw [M.firsts_len]; exact hk)), M.firsts_get L hk]
theorem M.range_nil (L : List M.Cl) : M.rangeL [] [] L = L := by
  have : ∀ c : M.Cl, M.inR [] [] c = true := fun c => by
    have : Op.bytesLess c.key [] = false := by cases c.key <;> rfl
    simp [M.inR, this]
  unfold M.rangeL
  rw [List.filter_eq_self]
  exact fun c _ => this c
theorem M.range_len (lo hi : List UInt8) (L : List M.Cl) : (M.rangeL lo hi L).length ≤ L.length := List.length_filter_le _ _
set_option maxRecDepth 100000 in
/-- As append_cls, and where the new row lies. -/
theorem append_cls_at (w : World) (base : Nat) (t ty : TypeId) (i : TypeInfo) (z : Value) (ht : Tryz.prog.underlying t = some (.slice 38)) (hi : Tryz.prog.info? 38 = some i) (hz : i.zero = some z) (h1 : i.size = 3) (h2 : i.bytes = 40) (h3 : z.cells.size = 3)
    (v : Value) (n : Nat) (xs : List Value) (ho : w.ownsRow base 38 3 v n xs) (ao : Option Addr) (c : Nat) (L : List M.Cl) (hs : ClsAt w ao L) (h63 : n + L.length ≤ 1000000) (hbase : base ≤ w.heap.size) :
    ∃ v' w', (Builtin.append_ #[t, t] ty #[v, .slice ao L.length c]).run Tryz.prog w = .ok v' w' ∧ w'.ownsRow base 38 3 v' (n + L.length) (xs ++ cls L) ∧ w.grownBy w' v.ownBlock ∧ (v'.ownBlock = v.ownBlock ∨ v'.ownBlock = some w.heap.size) := by
  cases ao with
  | none =>
    have hL : L = [] := by
      cases L with
      | nil => rfl
      | cons x r => obtain ⟨g, off, e, _⟩ := hs (by simp); cases e
    subst hL
    exact ⟨v, w, append_none9 w base t ty _ i 3 ht hi ho c, by simpa [cls] using ho, World.grownBy.refl w _, .inl rfl⟩
  | some ad =>
    have hc : ∀ j u, (cls L)[j]? = some u → w.cell? (ad.add j) = some u := by
      intro j u hu
      by_cases hL : L = []
      · subst hL; simp [cls] at hu
      · obtain ⟨g, off, e, hk⟩ := hs hL
        injection e with e
        subst e
        rw [Addr.add_lit]
        exact clsAt_get9 hk j u hu
    obtain ⟨v', w', hr, h5, h6, _, h7⟩ := run_append_own_at (P := Tryz.prog) w base t ty 38 i z 3 40 ht hi hz h1 h2 h3 (by decide) v n xs ho ad L.length c (cls L) (cls_length L) hc (cls_oneC L) (by unfold maxLen; omega) (by omega) hbase
    exact ⟨v', w', hr, h5, h6, h7⟩
theorem wpList_append_cls_at {w : World} {ops : Array Oper} {rest : List Oper} {o : Oper} {a : Act} {Q : Exit → Act → World → Prop} (hgd : o.guard = none) (s x : Operand) (t : TypeId)
    (hop : o.op = .call { callee := .builtin .append, args := #[s, x], argTypes := #[t, t] })
    (base : Nat) (i : TypeInfo) (z : Value) (ht : Tryz.prog.underlying t = some (.slice 38)) (hi : Tryz.prog.info? 38 = some i) (hz : i.zero = some z) (h1 : i.size = 3) (h2 : i.bytes = 40) (h3 : z.cells.size = 3)
    (v : Value) (n : Nat) (xs : List Value) (hv : a.eval s = v) (ho : w.ownsRow base 38 3 v n xs) (ao : Option Addr) (c : Nat) (L : List M.Cl) (hx : a.eval x = .slice ao L.length c) (hs : ClsAt w ao L) (h63 : n + L.length ≤ 1000000) (hbase : base ≤ w.heap.size)
    (h : ∀ v' w', w'.ownsRow base 38 3 v' (n + L.length) (xs ++ cls L) → w.grownBy w' v.ownBlock → (v'.ownBlock = v.ownBlock ∨ v'.ownBlock = some w.heap.size) → wpList Tryz.prog ops Q rest (a.put o.dst v') w') :
    wpList Tryz.prog ops Q (o :: rest) a w := by
  refine wpList_plain hgd fun K hK => ?_
  obtain ⟨v', w', hrun, h5, h6, h7⟩ := append_cls_at w base t o.type i z ht hi hz h1 h2 h3 v n xs ho ao c L hs h63 hbase
  unfold Oper.wp execOp
  simp only [hop, resolve, invoke, builtin, Sem.run_bind, Sem.run_pure, Result.andThen_ok, List.map_toArray, List.map_cons, List.map_nil, hv, hx, hrun]
  exact hK _ _ (h v' w' h5 h6 h7)
theorem M.range_take (lo hi : List UInt8) {K : List M.Cl} {j : Nat} (h : j < K.length) : M.rangeL lo hi (K.take (j + 1)) = M.rangeL lo hi (K.take j) ++ (if M.inR lo hi (K.getD j M.cl0) then [K.getD j M.cl0] else []) := by
  rw [takeC_snoc h, M.rangeL, List.filter_append]
  congr 1
  simp only [List.filter_cons, List.filter_nil]
/-- What a range has so far: the blocks ahead, and some cells of this one. -/
structure Rg10 (W : World) (al : Option Addr) (cl : Nat) (bk A : List M.Cl) (ao : Option Addr) (cap : Nat) (B' : Nat) (w : World) : Prop where
  own : w.ownsRow W.heap.size 38 3 (.slice ao A.length cap) A.length (cls A)
  row : w.ownsRow B' 38 3 (.slice al bk.length cl) bk.length (cls bk)
  ne : ∀ q, (Value.slice al bk.length cl).ownBlock = some q → (Value.slice ao A.length cap).ownBlock ≠ some q
  bel : Below W.heap.size W w
theorem Rg10.below {W : World} {al : Option Addr} {cl : Nat} {bk A : List M.Cl} {ao : Option Addr} {cap B' : Nat} {w w' : World} (h : Rg10 W al cl bk A ao cap B' w) (hb : Below w.heap.size w w') : Rg10 W al cl bk A ao cap B' w' :=
  ⟨ownP_below h.own hb, ownP_below h.row hb, h.ne, below_step h.bel hb⟩
instance car_rg10 {W : World} {al : Option Addr} {cl : Nat} {bk A : List M.Cl} {ao : Option Addr} {cap B' : Nat} {w w' : World} : Car w w' (Rg10 W al cl bk A ao cap B' w) (Rg10 W al cl bk A ao cap B' w') := ⟨fun hb h => h.below hb⟩
theorem Rg10.grown {W : World} {al : Option Addr} {cl : Nat} {bk A : List M.Cl} {ao ao' : Option Addr} {cap cap' B' : Nat} {c : M.Cl} {w w' : World} (h : Rg10 W al cl bk A ao cap B' w) (ho : w'.ownsRow W.heap.size 38 3 (.slice ao' (A.length + 1) cap') (A.length + 1) (cls A ++ cls [c])) (hg : w.grownBy w' (Value.slice ao A.length cap).ownBlock) (hat : (Value.slice ao' (A.length + 1) cap').ownBlock = (Value.slice ao A.length cap).ownBlock ∨ (Value.slice ao' (A.length + 1) cap').ownBlock = some w.heap.size) :
    Rg10 W al cl bk (A ++ [c]) ao' cap' B' w' := by
  have e : (A ++ [c]).length = A.length + 1 := by simp
  refine ⟨by rw [e, cls_append]; exact ho, h.row.kept hg ?_, fun q hq => ?_, h.bel.grown hg h.bel.size (fun k hk => (h.own.lt k hk).1)⟩
  · cases hb : (Value.slice al bk.length cl).ownBlock with
    | none => exact .inl rfl
    | some q => exact .inr (fun e => h.ne q hb e.symm)
  · rw [e]
    intro e2
    rcases hat with k | k
    · exact h.ne q hq (k ▸ e2)
    · rw [k] at e2
      injection e2 with e2
      have := (h.row.lt q hq).2
      omega
set_option maxHeartbeats 8000000 in
set_option maxRecDepth 100000 in
theorem range10_any (L : List M.Cl) (p : Nat) (lo hi : List UInt8) (w : World) (h : TabAt L p w) (hs : M.srt none L = true) (hl : L.length ≤ 4096) (hq : ∀ c ∈ L, c.seq ≤ 9223372036854775807) (h1 : lo.length ≤ 140737488351232) (h2 : hi.length ≤ 140737488351232) :
    Calls Tryz.prog 63 #[.pointer (some ⟨p, 0, none⟩), .string (S lo), .string (S hi)] w fun e w' => RangeR10 (M.rangeL lo hi L) w e w' := by
  obtain ⟨i0, z0, hi0, hz0, hz1, hz2, hz3⟩ := infoCl_parts
  have hm : M.many L ≤ 1024 := by unfold M.many; omega
  have CS := Lib.hid (start10_any L p lo w h hs hl)
  have HT := Lib.hid h
  have HS := Lib.hid hs
  have HQ := Lib.hid hq
  have CD := Lib.hid (fun k W => by
    have := decode9_any (M.encCs (M.blk L k)) (by have := M.encCs_len (M.srt_blk hs k) (M.blk_len4 L k); omega) W
    rw [M.dec_encC (M.srt_blk hs k) (fun c hc => hq c (M.blk_mem hc)) (by have := M.blk_len4 L k; omega)] at this
    exact this)
  unfold DecR9 at CD
  simp only at CD
  clear h hs hq
  go_enter Tryz.func63, Tryz.ntmps63
  go_wp2_with fail
  with_reducible refine (CS.out).mono ?_
  rintro e w1 ⟨s, rfl, ⟨hs1, hs2⟩, hb⟩
  have HB := Lib.hid hb
  have HS2 := Lib.hid (M.range_start (hi := hi) HS.out hs2)
  clear hb hs2 CS
  go_wp2_with fail
  go_loopw [7, 8] (fun v7 v8 wr => ∃ (k : Nat) (ao : Option Addr) (cap : Nat), k ≤ M.many L ∧ v8 = .int .i64 k ∧ v7 = .slice ao (M.rangeL lo hi (L.take (4 * k))).length cap ∧ Hid (wr.ownsRow w.heap.size 38 3 (.slice ao (M.rangeL lo hi (L.take (4 * k))).length cap) (M.rangeL lo hi (L.take (4 * k))).length (cls (M.rangeL lo hi (L.take (4 * k))))) ∧ Hid (Below w.heap.size w wr)) (fun _ v _ => M.many L - (intOf v).toNat)
  case atStart => exact ⟨s, none, 0, hs1, rfl, by rw [HS2.out]; rfl, Lib.hid (by rw [HS2.out]; exact World.ownsRow_nil _ _ _ _), HB⟩
  case round =>
    clear HB HS2 hs1
    obtain ⟨k, ao, cap, hk, rfl, rfl, HO, HBr⟩ := hrel
    obtain ⟨bo, bc, fo, fc, x0, x1, -, hblk⟩ := tabAt_blk (HT.out.below HBr.out) hl
    by_cases hlt : k < M.many L
    · have d1 : decide ((k : Int) < (M.many L : Int)) = true := by simp; omega
      have d2 : decide (k < M.many L) = true := by simp; omega
      have hki : (k : Int) < (M.many L : Int) := by omega
      obtain ⟨bg, fg, rfl, rfl, x2, x3⟩ := hblk k hlt
      obtain ⟨fk, hfk⟩ : ∃ fk, (L.getD (4 * k) M.cl0).key = fk := ⟨_, rfl⟩
      rw [hfk] at x3
      have HFK := Lib.hid hfk
      clear hfk hblk
      cases he : hi.isEmpty with
      | true =>
        obtain rfl : hi = [] := by simpa using he
        go_wp2_with fail
        with_reducible refine (CD.out k wr).mono ?_
        rintro e w2 ⟨⟨al, cl, rfl, hol⟩, hb2⟩
        have HG := Lib.hid (show Rg10 w al cl (M.blk L k) (M.rangeL lo [] (L.take (4 * k))) ao cap wr.heap.size w2 from ⟨ownP_below HO.out hb2, hol, fun q hq e => by
          have e1 := (HO.out.lt q e).2
          have e2 := (hol.lt q hq).1
          omega, below_step HBr.out hb2⟩)
        have hal : (M.rangeL lo [] (L.take (4 * k))).length ≤ 4096 := by
          have h1 := M.range_len lo [] (L.take (4 * k))
          have h2 := List.length_take_le (4 * k) L
          have h3 : (L.take (4 * k)).length ≤ L.length := by rw [List.length_take]; omega
          omega
        have hbl := M.blk_len4 L k
        have HSN := Lib.hid (M.range_snoc L lo [] k)
        have HKEY := Lib.hid (show ∀ c ∈ M.blk L k, c.key.length ≤ 64 from fun c hc => (M.mayC_true.1 (M.srt_may HS.out c (M.blk_mem hc))).2.1)
        clear hol hb2 x0 x1 x2 x3 HO HBr
        generalize M.rangeL lo [] (L.take (4 * k)) = A at *
        generalize M.blk L k = bk at *
        go_wp2_with fail
        obtain ⟨wo, hwo⟩ : ∃ x, x = wr.heap.size := ⟨_, rfl⟩
        rw [← hwo] at HG
        clear hwo
        go_loopw [7, 55] (fun v7 v55 wr => ∃ (j : Nat) (A' : List M.Cl) (ao' : Option Addr) (cap' : Nat), j ≤ bk.length ∧ A'.length ≤ A.length + j ∧ v55 = .int .i64 j ∧ v7 = .slice ao' A'.length cap' ∧ Hid (A' = A ++ M.rangeL lo [] (bk.take j)) ∧ Hid (Rg10 w al cl bk A' ao' cap' wo wr)) (fun _ v _ => bk.length - (intOf v).toNat)
        case atStart => exact ⟨0, A, ao, cap, Nat.zero_le _, Nat.le_refl _, rfl, rfl, Lib.hid (by simp [M.rangeL]), HG⟩
        case round =>
          clear HG
          obtain ⟨j, A', ao', cap', hj, hA, rfl, rfl, HA, HG⟩ := hrel
          by_cases hjl : j < bk.length
          · have d3 : decide ((j : Int) < (bk.length : Int)) = true := by simp; omega
            have d4 : decide (j < bk.length) = true := by simp; omega
            have hji : (j : Int) < (bk.length : Int) := by omega
            obtain ⟨cg, ccap, e, -, hcc⟩ := own_slice10 HG.out.row (by omega)
            obtain ⟨rfl, rfl⟩ : al = some ⟨cg, 0, none⟩ ∧ cl = ccap := by injection e with a b c; exact ⟨a, c⟩
            obtain ⟨y0, y1, y2⟩ : ClOff (bk.getD j M.cl0) wr cg (j * 3) := by
              obtain ⟨g', o', e, hc⟩ := (clsAt_own HG.out.row rfl).off j hjl
              cases e
              rwa [Nat.zero_add] at hc
            have HTK := Lib.hid (M.range_take lo [] hjl)
            have hkl := HKEY.out _ (M.getD_memC hjl)
            have HIN : Hid (M.inR lo [] (bk.getD j M.cl0) = (!Op.bytesLess (bk.getD j M.cl0).key lo && (([] : List UInt8).isEmpty || Op.bytesLess (bk.getD j M.cl0).key []))) := Lib.hid rfl
            generalize bk.getD j M.cl0 = c at *
            have HX := Lib.hid (rowIn_new (clA c) 38 wr)
            have HG2 := carryA (w := wr) (.cells (clA c) 38) HG
            cases hq1 : Op.bytesLess c.key lo with
            | true =>
              have HR := Lib.hid (show A' = A ++ M.rangeL lo [] (bk.take (j + 1)) from by rw [HTK.out, HIN.out, hq1]; simpa using HA.out)
              go_wp2_with fail
              go_roundw
              case rel => exact ⟨j + 1, A', ao', cap', by omega, by omega, by go_num, rfl, HR, HG2⟩
              case measure => simp [intOf]; omega
            | false =>
              have HR := Lib.hid (show A' ++ [c] = A ++ M.rangeL lo [] (bk.take (j + 1)) from by rw [HTK.out, HIN.out, hq1, show ([] : List UInt8).isEmpty = true from rfl]; simp [HA.out])
              have HXX := Lib.hid (rowIn_new (clA c) 38 (wr.alloc (.cells (clA c) 38)))
              have HG3 := carryA (w := wr.alloc (.cells (clA c) 38)) (.cells (clA c) 38) HG2
              have z0' := HX.out.cell 0
              go_wp2_with (at_builtin; refine wpList_append_cls_at rfl _ _ 22 rfl w.heap.size i0 z0 Tryz.underlying22 hi0 hz0 hz1 hz2 hz3 (.slice ao' A'.length cap') A'.length (cls A') rfl HG3.out.own (some ⟨wr.heap.size + 1, 0, none⟩) 1 [c] rfl ?c1 ?c2 ?c3 ?_)
              case c1 => exact clsAt_row (by have := HXX.out; rw [szA] at this; exact this) rfl
              case c2 => have e1 : [c].length = 1 := rfl; omega
              case c3 => exact HG3.out.bel.size
              intro v' w5 ho5 hg5 hat5
              obtain ⟨ao5, cap5, rfl⟩ := ownP_shape ho5
              have HG5 := Lib.hid (HG3.out.grown ho5 hg5 (by first | exact hat5 | (rw [szA, szA]; exact hat5)))
              clear ho5 hg5 hat5 z0'
              have e5 : (A' ++ [c]).length = A'.length + 1 := by simp
              have HE5 := Lib.hid e5
              clear e5
              go_wp2_with fail
              go_roundw
              case rel => exact ⟨j + 1, A' ++ [c], ao5, cap5, by omega, by rw [HE5.out]; omega, by go_num, by rw [HE5.out], HR, HG5⟩
              case measure => simp [intOf]; omega
          · obtain rfl : j = bk.length := by omega
            have d3 : decide ((bk.length : Int) < (bk.length : Int)) = false := by simp
            have d4 : decide (bk.length < bk.length) = false := by simp
            have HR := Lib.hid (show A' = M.rangeL lo [] (L.take (4 * (k + 1))) from by rw [HSN.out, HA.out, List.take_length])
            have HO2 := Lib.hid HG.out.own
            have HB2 := Lib.hid HG.out.bel
            rw [HR.out] at HO2
            clear HG
            go_wp2_with fail
            go_roundw
            case rel => exact ⟨k + 1, ao', cap', by omega, by go_num, by rw [HR.out], HO2, HB2⟩
            case measure => simp [intOf]; omega
      | false =>
        cases hf : Op.bytesLess fk hi with
        | true =>
          go_wp2_with fail
          with_reducible refine (CD.out k wr).mono ?_
          rintro e w2 ⟨⟨al, cl, rfl, hol⟩, hb2⟩
          have HG := Lib.hid (show Rg10 w al cl (M.blk L k) (M.rangeL lo hi (L.take (4 * k))) ao cap wr.heap.size w2 from ⟨ownP_below HO.out hb2, hol, fun q hq e => by
            have e1 := (HO.out.lt q e).2
            have e2 := (hol.lt q hq).1
            omega, below_step HBr.out hb2⟩)
          have hal : (M.rangeL lo hi (L.take (4 * k))).length ≤ 4096 := by
            have h1 := M.range_len lo hi (L.take (4 * k))
            have h2 := List.length_take_le (4 * k) L
            have h3 : (L.take (4 * k)).length ≤ L.length := by rw [List.length_take]; omega
            omega
          have hbl := M.blk_len4 L k
          have HSN := Lib.hid (M.range_snoc L lo hi k)
          have HKEY := Lib.hid (show ∀ c ∈ M.blk L k, c.key.length ≤ 64 from fun c hc => (M.mayC_true.1 (M.srt_may HS.out c (M.blk_mem hc))).2.1)
          clear hol hb2 x0 x1 x2 x3 HO HBr
          generalize M.rangeL lo hi (L.take (4 * k)) = A at *
          generalize M.blk L k = bk at *
          go_wp2_with fail
          obtain ⟨wo, hwo⟩ : ∃ x, x = wr.heap.size := ⟨_, rfl⟩
          rw [← hwo] at HG
          clear hwo
          go_loopw [7, 55] (fun v7 v55 wr => ∃ (j : Nat) (A' : List M.Cl) (ao' : Option Addr) (cap' : Nat), j ≤ bk.length ∧ A'.length ≤ A.length + j ∧ v55 = .int .i64 j ∧ v7 = .slice ao' A'.length cap' ∧ Hid (A' = A ++ M.rangeL lo hi (bk.take j)) ∧ Hid (Rg10 w al cl bk A' ao' cap' wo wr)) (fun _ v _ => bk.length - (intOf v).toNat)
          case atStart => exact ⟨0, A, ao, cap, Nat.zero_le _, Nat.le_refl _, rfl, rfl, Lib.hid (by simp [M.rangeL]), HG⟩
          case round =>
            clear HG
            obtain ⟨j, A', ao', cap', hj, hA, rfl, rfl, HA, HG⟩ := hrel
            by_cases hjl : j < bk.length
            · have d3 : decide ((j : Int) < (bk.length : Int)) = true := by simp; omega
              have d4 : decide (j < bk.length) = true := by simp; omega
              have hji : (j : Int) < (bk.length : Int) := by omega
              obtain ⟨cg, ccap, e, -, hcc⟩ := own_slice10 HG.out.row (by omega)
              obtain ⟨rfl, rfl⟩ : al = some ⟨cg, 0, none⟩ ∧ cl = ccap := by injection e with a b c; exact ⟨a, c⟩
              obtain ⟨y0, y1, y2⟩ : ClOff (bk.getD j M.cl0) wr cg (j * 3) := by
                obtain ⟨g', o', e, hc⟩ := (clsAt_own HG.out.row rfl).off j hjl
                cases e
                rwa [Nat.zero_add] at hc
              have HTK := Lib.hid (M.range_take lo hi hjl)
              have hkl := HKEY.out _ (M.getD_memC hjl)
              have HIN : Hid (M.inR lo hi (bk.getD j M.cl0) = (!Op.bytesLess (bk.getD j M.cl0).key lo && (hi.isEmpty || Op.bytesLess (bk.getD j M.cl0).key hi))) := Lib.hid rfl
              generalize bk.getD j M.cl0 = c at *
              have HX := Lib.hid (rowIn_new (clA c) 38 wr)
              have HG2 := carryA (w := wr) (.cells (clA c) 38) HG
              cases hq1 : Op.bytesLess c.key lo with
              | true =>
                have HR := Lib.hid (show A' = A ++ M.rangeL lo hi (bk.take (j + 1)) from by rw [HTK.out, HIN.out, hq1]; simpa using HA.out)
                go_wp2_with fail
                go_roundw
                case rel => exact ⟨j + 1, A', ao', cap', by omega, by omega, by go_num, rfl, HR, HG2⟩
                case measure => simp [intOf]; omega
              | false =>
                cases hq2 : Op.bytesLess c.key hi with
                | true =>
                  have HR := Lib.hid (show A' ++ [c] = A ++ M.rangeL lo hi (bk.take (j + 1)) from by rw [HTK.out, HIN.out, hq1, hq2, he]; simp [HA.out])
                  have HXX := Lib.hid (rowIn_new (clA c) 38 (wr.alloc (.cells (clA c) 38)))
                  have HG3 := carryA (w := wr.alloc (.cells (clA c) 38)) (.cells (clA c) 38) HG2
                  have z0' := HX.out.cell 0
                  go_wp2_with (at_builtin; refine wpList_append_cls_at rfl _ _ 22 rfl w.heap.size i0 z0 Tryz.underlying22 hi0 hz0 hz1 hz2 hz3 (.slice ao' A'.length cap') A'.length (cls A') rfl HG3.out.own (some ⟨wr.heap.size + 1, 0, none⟩) 1 [c] rfl ?c1 ?c2 ?c3 ?_)
                  case c1 => exact clsAt_row (by have := HXX.out; rw [szA] at this; exact this) rfl
                  case c2 => have e1 : [c].length = 1 := rfl; omega
                  case c3 => exact HG3.out.bel.size
                  intro v' w5 ho5 hg5 hat5
                  obtain ⟨ao5, cap5, rfl⟩ := ownP_shape ho5
                  have HG5 := Lib.hid (HG3.out.grown ho5 hg5 (by first | exact hat5 | (rw [szA, szA]; exact hat5)))
                  clear ho5 hg5 hat5 z0'
                  have e5 : (A' ++ [c]).length = A'.length + 1 := by simp
                  have HE5 := Lib.hid e5
                  clear e5
                  go_wp2_with fail
                  go_roundw
                  case rel => exact ⟨j + 1, A' ++ [c], ao5, cap5, by omega, by rw [HE5.out]; omega, by go_num, by rw [HE5.out], HR, HG5⟩
                  case measure => simp [intOf]; omega
                | false =>
                  have HR := Lib.hid (show A' = A ++ M.rangeL lo hi (bk.take (j + 1)) from by rw [HTK.out, HIN.out, hq1, he, hq2]; simpa using HA.out)
                  go_wp2_with fail
                  go_roundw
                  case rel => exact ⟨j + 1, A', ao', cap', by omega, by omega, by go_num, rfl, HR, HG2⟩
                  case measure => simp [intOf]; omega
            · obtain rfl : j = bk.length := by omega
              have d3 : decide ((bk.length : Int) < (bk.length : Int)) = false := by simp
              have d4 : decide (bk.length < bk.length) = false := by simp
              have HR := Lib.hid (show A' = M.rangeL lo hi (L.take (4 * (k + 1))) from by rw [HSN.out, HA.out, List.take_length])
              have HO2 := Lib.hid HG.out.own
              have HB2 := Lib.hid HG.out.bel
              rw [HR.out] at HO2
              clear HG
              go_wp2_with fail
              go_roundw
              case rel => exact ⟨k + 1, ao', cap', by omega, by go_num, by rw [HR.out], HO2, HB2⟩
              case measure => simp [intOf]; omega
        | false =>
          have HE := Lib.hid (M.range_end HS.out (lo := lo) he (show Op.bytesLess (L.getD (4 * k) M.cl0).key hi = false from by rw [HFK.out]; exact hf))
          go_wp2_with fail
          go_ret
          exact ⟨ao, cap, by rw [HE.out]; rfl, by rw [HE.out]; exact HO.out, HBr.out⟩
    · obtain rfl : k = M.many L := by omega
      have d1 : decide ((M.many L : Int) < (M.many L : Int)) = false := by simp
      have d2 : decide (M.many L < M.many L) = false := by simp
      rw [M.take_many] at HO
      go_wp2_with fail
      go_ret
      exact ⟨ao, cap, by rw [M.take_many]; rfl, HO.out, HBr.out⟩

end Go.Proofs.YtnhljlmelbiljaaGreat

/- Layer 10: what is asked of a table, by contracts. -/
namespace Go.Proofs.YtnhljlmelbiljaaGreat
set_option linter.unusedVariables false
open Go Go.RowKit
attribute [local go_sem ↓] run_index_S
attribute [local go_sem] S_append S_extract

set_option maxHeartbeats 1000000 in
theorem range10_nil (lo hi : List UInt8) (w : World) : Calls Tryz.prog 63 #[.pointer none, .string (S lo), .string (S hi)] w fun e w' => e = .returned (.slice none 0 0) ∧ w = w' := by
  go_enter Tryz.func63, Tryz.ntmps63
  go_wp2_with fail
  go_ret
  exact ⟨rfl, rfl⟩
set_option maxHeartbeats 2000000 in
set_option maxRecDepth 100000 in
theorem get10_nil (key : List UInt8) (w : World) : Calls Tryz.prog 30 #[.pointer none, .string (S key)] w fun e w' => FindR9 none w e w' := by
  have HB := Lib.hid ((Below.refl w.heap.size w).alloc (Nat.le_refl _) (.cells clZ9 38))
  have HR := Lib.hid (rowIn_new clZ9 38 w)
  go_enter Tryz.func30, Tryz.ntmps30
  go_wp2_with ((refine wpList_store_hid rfl 38 _ _ rfl w.heap.size _ rfl rfl 38 clZ9 HR.out ?_ rfl (by simp [Value.oneCell']) ?_; kernel_rfl; intro w3 hrQ hbelQ hothQ hszQ; have HXE := Lib.hid hrQ; have HBE := Lib.hid (hbelQ w.heap.size w (Nat.le_refl _) HB.out); clear hrQ hbelQ hothQ hszQ))
  try simp only [Exit.inBlock, Exit.then]
  exact bodyPost_ret (ret_rowP2 rfl _ _ w.heap.size rfl (load_struct Tryz.underlying38 (by kernel_rfl) HXE.out)) rfl (show FindR9 none w _ _ from ⟨rfl, HBE.out⟩)
set_option maxHeartbeats 8000000 in
set_option maxRecDepth 100000 in
theorem get10_any (L : List M.Cl) (p : Nat) (key : List UInt8) (w : World) (h : TabAt L p w) (hs : M.srt none L = true) (hl : L.length ≤ 4096) (hq : ∀ c ∈ L, c.seq ≤ 9223372036854775807) (h1 : key.length ≤ 140737488351232) :
    Calls Tryz.prog 30 #[.pointer (some ⟨p, 0, none⟩), .string (S key)] w fun e w' => FindR9 (M.findL key L) w e w' := by
  have hm : M.many L ≤ 1024 := by unfold M.many; omega
  have HB0 := (Below.refl w.heap.size w).alloc (Nat.le_refl _) (.cells clZ9 38)
  have HR0 := rowIn_new clZ9 38 w
  have CS := Lib.hid (start10_any L p key _ (h.below HB0) hs hl)
  have HB := Lib.hid HB0
  have HR := Lib.hid HR0
  clear HB0 HR0
  have HT := Lib.hid h
  have HS := Lib.hid hs
  have CF := Lib.hid (fun k W => by
    have := find9_any (M.encCs (M.blk L k)) key (by have := M.encCs_len (M.srt_blk hs k) (M.blk_len4 L k); omega) W
    rw [show M.findC (M.encCs (M.blk L k)) key = M.findL key (M.blk L k) from by rw [M.findC, M.dec_encC (M.srt_blk hs k) (fun c hc => hq c (M.blk_mem hc)) (by have := M.blk_len4 L k; omega)]] at this
    exact this)
  unfold FindR9 at CF
  clear h hs hq
  go_enter Tryz.func30, Tryz.ntmps30
  go_wp2_with fail
  with_reducible refine (CS.out).mono ?_
  rintro e w1 ⟨s, rfl, ⟨hs1, hs2⟩, hb⟩
  replace HB := carry hb HB
  replace HR := carry hb HR
  have HS2 := Lib.hid (M.find_start HS.out hs2)
  clear hb hs2 CS
  go_wp2_with fail
  go_loopw [6] (fun v6 wr => ∃ k : Nat, k ≤ M.many L ∧ v6 = .int .i64 k ∧ Hid (M.findL key (L.take (4 * k)) = none) ∧ Hid (RowIn clZ9 38 wr w.heap.size) ∧ Hid (Below w.heap.size w wr)) (fun v _ => M.many L - (intOf v).toNat)
  case atStart => exact ⟨s, hs1, rfl, HS2, HR, HB⟩
  case round =>
    clear HB HR HS2 hs1
    obtain ⟨k, hk, rfl, HF, HR, HBr⟩ := hrel
    obtain ⟨bo, bc, fo, fc, x0, x1, -, hblk⟩ := tabAt_blk (HT.out.below HBr.out) hl
    by_cases hlt : k < M.many L
    · have d1 : decide ((k : Int) < (M.many L : Int)) = true := by simp; omega
      have d2 : decide (k < M.many L) = true := by simp; omega
      have hki : (k : Int) < (M.many L : Int) := by omega
      obtain ⟨bg, fg, rfl, rfl, x2, x3⟩ := hblk k hlt
      obtain ⟨fk, hfk⟩ : ∃ fk, (L.getD (4 * k) M.cl0).key = fk := ⟨_, rfl⟩
      rw [hfk] at x3
      have HFK := Lib.hid hfk
      clear hfk hblk
      cases hf : Op.bytesLess key fk with
      | true =>
        have q1 : Op.bytesLess fk key = false := by
          cases q : Op.bytesLess fk key with
          | false => rfl
          | true => have := M.less_trans _ _ _ hf q; rw [M.less_irr] at this; cases this
        have q2 : (fk == key) = false := by
          simp only [beq_eq_false_iff_ne]
          rintro rfl
          rw [M.less_irr] at hf; cases hf
        have HE := Lib.hid (M.find_end HS.out (show Op.bytesLess key (L.getD (4 * k) M.cl0).key = true from by rw [HFK.out]; exact hf) HF.out)
        go_wp2_with ((refine wpList_store_hid rfl 38 _ _ rfl w.heap.size _ rfl rfl 38 clZ9 HR.out ?_ rfl (by simp [Value.oneCell']) ?_; kernel_rfl; intro w3 hrQ hbelQ hothQ hszQ; have HXE := Lib.hid hrQ; have HBE := Lib.hid (hbelQ w.heap.size w (Nat.le_refl _) HBr.out); clear hrQ hbelQ hothQ hszQ))
        try simp only [Exit.inBlock, Exit.then]
        exact bodyPost_ret (ret_rowP2 rfl _ _ w.heap.size rfl (load_struct Tryz.underlying38 (by kernel_rfl) HXE.out)) rfl (show FindR9 (M.findL key L) w _ _ from by rw [HE.out]; exact ⟨rfl, HBE.out⟩)
      | false =>
        have HSN := Lib.hid (M.find_snoc L key k HF.out)
        have CF1 := Lib.hid (CF.out k wr)
        have qq : (Op.bytesLess fk key = true ∧ (fk == key) = false) ∨ (Op.bytesLess fk key = false ∧ (fk == key) = true) := by
          by_cases e : fk = key
          · subst e; exact .inr ⟨M.less_irr _, by simp⟩
          · have := M.less_flip fk key e
            rw [hf] at this
            exact .inl ⟨by simpa using this.symm, by simpa using e⟩
        clear hf
        rcases qq with ⟨q1, q2⟩ | ⟨q1, q2⟩
        all_goals
          go_wp2_with fail
          cases hd : M.findL key (M.blk L k) with
          | none =>
            have HN := Lib.hid (HSN.out.trans hd)
            rw [hd] at CF1
            with_reducible refine (CF1.out).mono ?_
            rintro e w2 ⟨rfl, hb⟩
            replace HR := carry hb HR
            replace HBr := carry hb HBr
            clear hb hd CF1 x0 x1 x2 x3
            replace HR := carryA (w := w2) (.cells (clA M.cl0) 38) HR
            replace HBr := carryA (w := w2) (.cells (clA M.cl0) 38) HBr
            go_wp2_with fail
            go_roundw
            case rel => exact ⟨k + 1, by omega, by go_num, HN, HR, HBr⟩
            case measure => simp [intOf]; omega
          | some d =>
            have HN := Lib.hid (M.find_hit L key (4 * (k + 1)) (HSN.out.trans hd))
            rw [hd] at CF1
            with_reducible refine (CF1.out).mono ?_
            rintro e w2 ⟨rfl, hb⟩
            replace HR := carry hb HR
            replace HBr := carry hb HBr
            clear hb hd CF1 x0 x1 x2 x3
            have HX := Lib.hid (rowIn_new (clA d) 38 w2)
            replace HR := carryA (w := w2) (.cells (clA d) 38) HR
            replace HBr := carryA (w := w2) (.cells (clA d) 38) HBr
            go_wp2_with (first | (refine wpList_load_row rfl 38 _ rfl w2.heap.size rfl 38 _ (0, 0) _ HX.out Tryz.underlying38 rfl ?_ ?_; kernel_rfl) | (refine wpList_store_hid rfl 38 _ _ rfl w.heap.size _ rfl rfl 38 clZ9 HR.out ?_ rfl (by simp [Value.oneCell']) ?_; kernel_rfl; intro w3 hrQ hbelQ hothQ hszQ; have HXE := Lib.hid hrQ; have HBE := Lib.hid (hbelQ w.heap.size w (Nat.le_refl _) HBr.out); clear hrQ hbelQ hothQ hszQ))
            try simp only [Exit.inBlock, Exit.then]
            exact bodyPost_ret (ret_rowP2 rfl _ _ w.heap.size rfl (load_struct Tryz.underlying38 (by kernel_rfl) HXE.out)) rfl (show FindR9 (M.findL key L) w _ _ from by rw [HN.out]; exact ⟨rfl, HBE.out⟩)
    · obtain rfl : k = M.many L := by omega
      have d1 : decide ((M.many L : Int) < (M.many L : Int)) = false := by simp
      have d2 : decide (M.many L < M.many L) = false := by simp
      have HE := HF
      rw [M.take_many] at HE
      go_wp2_with ((refine wpList_store_hid rfl 38 _ _ rfl w.heap.size _ rfl rfl 38 clZ9 HR.out ?_ rfl (by simp [Value.oneCell']) ?_; kernel_rfl; intro w3 hrQ hbelQ hothQ hszQ; have HXE := Lib.hid hrQ; have HBE := Lib.hid (hbelQ w.heap.size w (Nat.le_refl _) HBr.out); clear hrQ hbelQ hothQ hszQ))
      try simp only [Exit.inBlock, Exit.then]
      exact bodyPost_ret (ret_rowP2 rfl _ _ w.heap.size rfl (load_struct Tryz.underlying38 (by kernel_rfl) HXE.out)) rfl (show FindR9 (M.findL key L) w _ _ from by rw [HE.out]; exact ⟨rfl, HBE.out⟩)

end Go.Proofs.YtnhljlmelbiljaaGreat

/- Layer 10: what comes in: arrays of two and of three texts. -/
namespace Go.Proofs.YtnhljlmelbiljaaGreat
set_option linter.unusedVariables false
open Go Go.RowKit

def U3s (v : Value) : Prop := ∃ a b c : List UInt8, v = .agg #[.string (S a), .string (S b), .string (S c)]
section
variable {H : Type} {enc : TypeId × Value → H} {W : World} {r : Reach} {b0 : Nat} {v : Value} {d : DataW H} {p : List MemPlace}
set_option linter.constructorNameAsVariable false
theorem okWide_array10 {n : Nat} {e t : TypeId} (ht : Tryz.prog.underlying t = some (.array n e)) (h : Value.okWide Tryz.prog W r b0 t v) : ∃ cs, v = .agg cs ∧ cs.size = Tryz.prog.cellsOf t := by
  simp only [Value.okWide, ht] at h
  obtain ⟨cs, h1, h2, _⟩ := h
  exact ⟨cs, h1, h2⟩
theorem str_of10 (a : ByteArray) : Value.string a = .string (S a.data.toList) := by simp [S]
set_option maxRecDepth 100000 in
theorem open_three (hv : Value.okWide Tryz.prog W r b0 26 v) (h : DataW.Trod enc Tryz.prog W 0 (fun _ => true) true 26 v d p) : U3s v := by
  obtain ⟨cs, rfl, hsz⟩ := okWide_array10 Tryz.underlying26 hv
  obtain ⟨fuel, hf⟩ := h
  have k1 : Tryz.prog.cellsOf 9 = 1 := by kernel_rfl
  have k2 : Tryz.prog.cellsOf 26 = 3 := by kernel_rfl
  rw [k2] at hsz
  obtain ⟨xs, m, _, _, _, hl, hel⟩ := DataW.trod_array Tryz.underlying26 hf
  rw [k1] at hel
  match cs, hsz with
  | ⟨[c0, c1, c2]⟩, _ =>
    have h0 := hel 0 (by omega)
    have h1 := hel 1 (by omega)
    have h2 := hel 2 (by omega)
    rw [List.getElem?_eq_getElem (by omega)] at h0 h1 h2
    obtain ⟨a0, e0, _, w0⟩ := DataW.trod_string Tryz.underlying9 h0
    obtain ⟨a1, e1, _, w1⟩ := DataW.trod_string Tryz.underlying9 h1
    obtain ⟨a2, e2, _, w2⟩ := DataW.trod_string Tryz.underlying9 h2
    simp [Value.cells] at e0 e1 e2
    subst e0 e1 e2
    exact ⟨a0.data.toList, a1.data.toList, a2.data.toList, by rw [← str_of10, ← str_of10, ← str_of10]⟩
end

end Go.Proofs.YtnhljlmelbiljaaGreat
