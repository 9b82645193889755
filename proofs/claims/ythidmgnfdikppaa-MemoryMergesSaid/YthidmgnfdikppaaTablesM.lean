/- Plain mathematics of layer 10: the text of a table, and what is read of it. -/
import Derived.Test.YthidmgnfdikppaaZH
namespace Go.Proofs.Ythidmgnfdikppaa
set_option linter.unusedVariables false
open Go Go.RowKit

/-- Bytes, their sum behind them. -/
def M.wsum (s : List UInt8) : List UInt8 := s ++ M.big 4 (M.sumP s)
theorem M.wsum_len (s : List UInt8) : (M.wsum s).length = s.length + 4 := by simp [M.wsum, M.big_length]
/-- The cells of a block. -/
def M.blk (L : List M.Cl) (k : Nat) : List M.Cl := (L.drop (4 * k)).take 4
/-- The blocks' bytes, the index' entries, of so many blocks. -/
def M.bodyS : Nat → List M.Cl → List UInt8
  | 0, _ => []
  | k + 1, L => M.wsum (M.encCs (L.take 4)) ++ M.bodyS k (L.drop 4)
def M.entB (L : List M.Cl) : List UInt8 := M.putT (L.getD 0 M.cl0).key ++ M.putN (M.encCs (L.take 4)).length
def M.idxS : Nat → List M.Cl → List UInt8
  | 0, _ => []
  | k + 1, L => M.entB L ++ M.idxS k (L.drop 4)
theorem M.bodyS_add (k j : Nat) (L : List M.Cl) : M.bodyS (k + j) L = M.bodyS k L ++ M.bodyS j (L.drop (4 * k)) := by
  induction k generalizing L with
  | zero => simp [M.bodyS]
  | succ k ih =>
    rw [show k + 1 + j = (k + j) + 1 from by omega, M.bodyS, ih, M.bodyS, List.drop_drop, List.append_assoc, show 4 + 4 * k = 4 * (k + 1) from by omega]
theorem M.idxS_add (k j : Nat) (L : List M.Cl) : M.idxS (k + j) L = M.idxS k L ++ M.idxS j (L.drop (4 * k)) := by
  induction k generalizing L with
  | zero => simp [M.idxS]
  | succ k ih =>
    rw [show k + 1 + j = (k + j) + 1 from by omega, M.idxS, ih, M.idxS, List.drop_drop, List.append_assoc, show 4 + 4 * k = 4 * (k + 1) from by omega]
theorem M.bodyS_snoc (k : Nat) (L : List M.Cl) : M.bodyS (k + 1) L = M.bodyS k L ++ M.wsum (M.encCs (M.blk L k)) := by
  rw [M.bodyS_add]; simp [M.bodyS, M.blk]
theorem M.idxS_snoc (k : Nat) (L : List M.Cl) : M.idxS (k + 1) L = M.idxS k L ++ (M.putT (L.getD (4 * k) M.cl0).key ++ M.putN (M.encCs (M.blk L k)).length) := by
  rw [M.idxS_add]; simp [M.idxS, M.entB, M.blk, List.getD]
def M.many (L : List M.Cl) : Nat := (L.length + 3) / 4
def M.spoorT : List UInt8 := [115, 112, 111, 111, 114]
def M.idxT (L : List M.Cl) : List UInt8 := M.putN (M.many L) ++ M.idxS (M.many L) L
def M.bodyT (L : List M.Cl) : List UInt8 := M.bodyS (M.many L) L
def M.tableT (L : List M.Cl) : List UInt8 := M.bodyT L ++ M.wsum (M.idxT L) ++ (M.bigN (M.bodyT L).length ++ M.bigN L.length ++ M.spoorT)

theorem M.srt_none {p : Option M.Cl} {L : List M.Cl} (h : M.srt p L = true) : M.srt none L = true := by
  cases L with
  | nil => rfl
  | cons c r =>
    simp only [M.srt, Bool.and_eq_true] at h ⊢
    refine ⟨?_, h.2⟩
    have := h.1
    simp only [M.nextB, Bool.and_eq_true] at this ⊢
    exact ⟨this.1, trivial⟩
theorem M.srt_drop {L : List M.Cl} (h : M.srt none L = true) (n : Nat) : M.srt none (L.drop n) = true := by
  rw [← List.take_append_drop n L, M.srt_append] at h
  simp only [Bool.and_eq_true] at h
  exact M.srt_none h.2
theorem M.srt_take10 {L : List M.Cl} (h : M.srt none L = true) (n : Nat) : M.srt none (L.take n) = true := by
  rw [← List.take_append_drop n L, M.srt_append] at h
  simp only [Bool.and_eq_true] at h
  exact h.1
theorem M.srt_blk {L : List M.Cl} (h : M.srt none L = true) (k : Nat) : M.srt none (M.blk L k) = true := M.srt_take10 (M.srt_drop h _) _
theorem M.blk_len (L : List M.Cl) (k : Nat) : (M.blk L k).length = min 4 (L.length - 4 * k) := by simp [M.blk]
theorem M.blk_len4 (L : List M.Cl) (k : Nat) : (M.blk L k).length ≤ 4 := by rw [M.blk_len]; omega
theorem M.blk_mem {L : List M.Cl} {k : Nat} {c : M.Cl} (h : c ∈ M.blk L k) : c ∈ L := List.mem_of_mem_drop (List.mem_of_mem_take h)
theorem M.take_blk (L : List M.Cl) (k : Nat) : L.take (4 * (k + 1)) = L.take (4 * k) ++ M.blk L k := by
  rw [show 4 * (k + 1) = 4 * k + 4 from by omega, List.take_add]; rfl
theorem M.take_many (L : List M.Cl) : L.take (4 * M.many L) = L := List.take_of_length_le (by unfold M.many; omega)
theorem M.body_len {L : List M.Cl} (h : M.srt none L = true) (k : Nat) : (M.bodyS k L).length ≤ 1000 * k := by
  induction k with
  | zero => simp [M.bodyS]
  | succ k ih =>
    have := M.encCs_len (M.srt_blk h k) (M.blk_len4 L k)
    rw [M.bodyS_snoc, List.length_append, M.wsum_len]; omega
theorem M.key_len {L : List M.Cl} (h : M.srt none L = true) (k : Nat) : (L.getD k M.cl0).key.length ≤ 64 := by
  by_cases hk : k < L.length
  · exact (M.mayC_true.1 (M.srt_may h _ (M.getD_memC hk))).2.1
  · simp [List.getD, List.getElem?_eq_none (Nat.le_of_not_lt hk), M.cl0]
theorem M.idx_len {L : List M.Cl} (h : M.srt none L = true) (k : Nat) : (M.idxS k L).length ≤ 84 * k := by
  induction k with
  | zero => simp [M.idxS]
  | succ k ih =>
    have h1 := M.key_len h (4 * k)
    have h2 := (M.putN_length (L.getD (4 * k) M.cl0).key.length).2
    have h3 := (M.putN_length (M.encCs (M.blk L k)).length).2
    rw [M.idxS_snoc]; simp only [List.length_append, M.putT]; omega

/-- It is the text of a table of these cells. -/
structure M.IsT (text : List UInt8) (L : List M.Cl) : Prop where
  s : M.srt none L = true
  n : L.length ≤ 4096
  q : ∀ c ∈ L, c.seq ≤ 9223372036854775807
  t : M.tableT L = text

/-- What of a text was not read yet; bad, once something was not there. -/
structure M.RS where
  t : List UInt8
  b : Bool
def M.cutR (r : M.RS) (n : Int) : List UInt8 × M.RS := if r.b = false ∧ 0 ≤ n ∧ n ≤ (r.t.length : Int) then (r.t.take n.toNat, ⟨r.t.drop n.toNat, false⟩) else ([], ⟨r.t, true⟩)
def M.numR (r : M.RS) : Nat × M.RS := match M.gets r.t 0 with
  | none => (0, ⟨r.t, true⟩)
  | some (n, nx) => (n, if r.b then r else ⟨r.t.drop nx, false⟩)
def M.bigR (r : M.RS) : Nat × M.RS := match M.ofBigs (M.cutR r 8).1 0 with
  | none => (0, ⟨(M.cutR r 8).2.t, true⟩)
  | some n => (n, (M.cutR r 8).2)
def M.keyR (r : M.RS) : List UInt8 × M.RS := M.cutR (M.numR r).2 (M.numR r).1
structure M.Ent where
  first : List UInt8
  block : List UInt8
  x : M.RS
  bl : M.RS
def M.entR (x bl : M.RS) : M.Ent :=
  ⟨(M.keyR x).1, (M.cutR bl (M.numR (M.keyR x).2).1).1, (M.numR (M.keyR x).2).2, (M.cutR (M.cutR bl (M.numR (M.keyR x).2).1).2 4).2⟩
theorem M.numR_put (n : Nat) (h : n ≤ 9223372036854775807) (z : List UInt8) : M.numR ⟨M.putN n ++ z, false⟩ = (n, ⟨z, false⟩) := by
  have e := M.getsP (s := M.putN n ++ z) (a := []) (c := z) (n := n) (i := 0) h (by simp) rfl
  have e0 : ((0 : Nat) : Int) = 0 := rfl
  rw [e0] at e
  unfold M.numR
  simp only [e]
  simp
theorem M.cutR_app (a z : List UInt8) : M.cutR ⟨a ++ z, false⟩ a.length = (a, ⟨z, false⟩) := by
  simp [M.cutR]; omega
theorem M.cutR_app' (a z : List UInt8) (n : Int) (h : n = a.length) : M.cutR ⟨a ++ z, false⟩ n = (a, ⟨z, false⟩) := by
  subst h; exact M.cutR_app a z
theorem M.keyR_put (k z : List UInt8) (h : k.length ≤ 9223372036854775807) : M.keyR ⟨M.putT k ++ z, false⟩ = (k, ⟨z, false⟩) := by
  unfold M.keyR
  rw [M.putT, List.append_assoc, M.numR_put _ h]
  exact M.cutR_app k z
theorem M.entR_is {L : List M.Cl} (h : M.srt none L = true) (j : Nat) : M.entR ⟨M.idxS (j + 1) L, false⟩ ⟨M.bodyS (j + 1) L, false⟩ =
    ⟨(L.getD 0 M.cl0).key, M.encCs (L.take 4), ⟨M.idxS j (L.drop 4), false⟩, ⟨M.bodyS j (L.drop 4), false⟩⟩ := by
  have h1 := M.key_len h 0
  have h2 := M.encCs_len (M.srt_take10 h 4) (n := 4) (by simp; omega)
  have e1 : M.keyR ⟨M.idxS (j + 1) L, false⟩ = ((L.getD 0 M.cl0).key, ⟨M.putN (M.encCs (L.take 4)).length ++ M.idxS j (L.drop 4), false⟩) := by
    rw [M.idxS, M.entB, List.append_assoc, M.keyR_put _ _ (by omega)]
  have e2 : M.cutR ⟨M.bodyS (j + 1) L, false⟩ ((M.encCs (L.take 4)).length : Int) = (M.encCs (L.take 4), ⟨M.big 4 (M.sumP (M.encCs (L.take 4))) ++ M.bodyS j (L.drop 4), false⟩) := by
    rw [M.bodyS, M.wsum, List.append_assoc, M.cutR_app]
  unfold M.entR
  rw [e1, M.numR_put _ (by omega)]
  simp only
  rw [e2]
  simp only
  rw [M.cutR_app' _ _ 4 (by rw [M.big_length]; rfl)]

/-- The bytes of sorted cells tell them, whatever stands behind. -/
theorem M.enc_pre10 {a b : List M.Cl} {x y : List UInt8} (ha : M.srt none a = true) (hb : M.srt none b = true) (hqa : ∀ c ∈ a, c.seq ≤ 9223372036854775807) (hqb : ∀ c ∈ b, c.seq ≤ 9223372036854775807) (hla : a.length ≤ 4) (hlb : b.length ≤ 4)
    (h : M.encCs a ++ x = M.encCs b ++ y) : a = b := by
  have g : ∀ {a : List M.Cl} (x : List UInt8), M.srt none a = true → (∀ c ∈ a, c.seq ≤ 9223372036854775807) → a.length ≤ 4 → M.gets (M.encCs a ++ x) 0 = some (a.length, (M.putN a.length).length) ∧ M.rdC true (M.encCs a ++ x) a.length (M.putN a.length).length [] = some (a, (M.encCs a).length) := fun {a} x h1 h2 h3 => by
    have hm := M.srt_may h1
    have e1 := M.getsP (s := M.encCs a ++ x) (a := []) (c := M.encL [] a ++ x) (n := a.length) (i := 0) (by omega) (by simp [M.encCs]) rfl
    have e2 := M.rd_enc true a (M.putN a.length) [] x (fun c hc => by
      have h1 := M.mayC_true.1 (hm c hc)
      exact ⟨h1.2.2.1, h2 c hc, by omega, by omega⟩) (by simp)
    exact ⟨by simpa using e1, e2⟩
  obtain ⟨a1, a2⟩ := g x ha hqa hla
  obtain ⟨b1, b2⟩ := g y hb hqb hlb
  rw [h] at a1 a2
  rw [a1] at b1
  injection b1 with b1
  injection b1 with b1 b3
  rw [b3, b1] at a2
  rw [a2] at b2
  injection b2 with b2
  injection b2
theorem M.body_inj : ∀ (k : Nat) (L K : List M.Cl), L.length ≤ 4 * k → K.length ≤ 4 * k → M.srt none L = true → M.srt none K = true → (∀ c ∈ L, c.seq ≤ 9223372036854775807) → (∀ c ∈ K, c.seq ≤ 9223372036854775807) → M.bodyS k L = M.bodyS k K → L = K
  | 0, L, K, hl, hk, _, _, _, _, _ => by
    rw [List.eq_nil_of_length_eq_zero (by omega : L.length = 0), List.eq_nil_of_length_eq_zero (by omega : K.length = 0)]
  | k + 1, L, K, hl, hk, sl, sk, ql, qk, h => by
    rw [M.bodyS, M.bodyS, M.wsum, M.wsum, List.append_assoc, List.append_assoc] at h
    have e := M.enc_pre10 (M.srt_take10 sl 4) (M.srt_take10 sk 4) (fun c hc => ql c (List.mem_of_mem_take hc)) (fun c hc => qk c (List.mem_of_mem_take hc)) (by simp; omega) (by simp; omega) h
    rw [e] at h
    have h2 := List.append_cancel_left (List.append_cancel_left h)
    have e2 := M.body_inj k (L.drop 4) (K.drop 4) (by simp; omega) (by simp; omega) (M.srt_drop sl 4) (M.srt_drop sk 4) (fun c hc => ql c (List.mem_of_mem_drop hc)) (fun c hc => qk c (List.mem_of_mem_drop hc)) h2
    rw [← List.take_append_drop 4 L, ← List.take_append_drop 4 K, e, e2]
theorem M.tab_inj {t : List UInt8} {L K : List M.Cl} (h : M.IsT t L) (g : M.IsT t K) : L = K := by
  have e := h.t.trans g.t.symm
  unfold M.tableT at e
  have hl : ∀ X : List M.Cl, (M.bigN (M.bodyT X).length ++ M.bigN X.length ++ M.spoorT).length = 21 := fun X => by simp [M.bigN_length, M.spoorT]
  obtain ⟨e1, e2⟩ := List.append_inj' e (by rw [hl, hl])
  obtain ⟨e3, e4⟩ := List.append_inj' e2 rfl
  obtain ⟨e5, e6⟩ := List.append_inj e3 (by rw [M.bigN_length, M.bigN_length])
  have hbl : ∀ X : List M.Cl, M.IsT t X → (M.bodyT X).length ≤ 9223372036854775807 := fun X hx => by
    have h1 := M.body_len hx.s (M.many X)
    have h2 := hx.n
    have : M.many X ≤ 1025 := by unfold M.many; omega
    unfold M.bodyT
    omega
  have e7 := (M.bigN_inj _ _ (hbl L h) (hbl K g)).1 e5
  have e8 := (M.bigN_inj _ _ (by have := h.n; omega) (by have := g.n; omega)).1 e6
  obtain ⟨e9, _⟩ := List.append_inj e1 e7
  have em : M.many L = M.many K := by unfold M.many; rw [e8]
  unfold M.bodyT at e9
  rw [← em] at e9
  exact M.body_inj (M.many L) L K (by unfold M.many; omega) (by unfold M.many; omega) h.s g.s h.q g.q e9
noncomputable def M.openT (t : List UInt8) : Option (List M.Cl) := by
  classical exact if h : ∃ L, M.IsT t L then some h.choose else none
theorem M.openT_some {t : List UInt8} {L : List M.Cl} (h : M.IsT t L) : M.openT t = some L := by
  have hx : ∃ L, M.IsT t L := ⟨L, h⟩
  unfold M.openT
  rw [dif_pos hx, M.tab_inj hx.choose_spec h]
theorem M.openT_none {t : List UInt8} (h : ∀ L, ¬ M.IsT t L) : M.openT t = none := by
  unfold M.openT
  rw [dif_neg (fun ⟨L, hL⟩ => h L hL)]
theorem M.openT_is {t : List UInt8} {L : List M.Cl} (h : M.openT t = some L) : M.IsT t L := by
  unfold M.openT at h
  split at h
  · rename_i hx
    injection h with h
    exact h ▸ hx.choose_spec
  · cases h

/-- What Build tells. -/
def M.buildE (L : List M.Cl) : List UInt8 × Nat := if M.srt none L = false then ([], 2) else if 4096 < L.length then ([], 3) else (M.tableT L, 0)

/-- Where a table's text parts. -/
theorem M.tab_len (L : List M.Cl) : (M.tableT L).length = (M.bodyT L).length + (M.idxT L).length + 25 := by
  simp [M.tableT, M.wsum_len, M.bigN_length, M.spoorT]; omega
theorem M.tab_body (L : List M.Cl) : (M.tableT L).take ((M.tableT L).length - 25) = M.bodyT L ++ M.idxT L := by
  rw [M.tab_len, M.tableT, M.wsum]
  rw [show M.bodyT L ++ (M.idxT L ++ M.big 4 (M.sumP (M.idxT L))) ++ (M.bigN (M.bodyT L).length ++ M.bigN L.length ++ M.spoorT) = (M.bodyT L ++ M.idxT L) ++ (M.big 4 (M.sumP (M.idxT L)) ++ (M.bigN (M.bodyT L).length ++ M.bigN L.length ++ M.spoorT)) from by simp only [List.append_assoc]]
  rw [List.take_append_of_le_length (by simp), List.take_of_length_le (by simp)]
theorem M.tab_foot (L : List M.Cl) : (M.tableT L).drop ((M.tableT L).length - 21) = M.bigN (M.bodyT L).length ++ (M.bigN L.length ++ M.spoorT) := by
  rw [M.tab_len, M.tableT]
  rw [List.drop_append_of_le_length (by simp [M.wsum_len]; omega), List.drop_of_length_le (by simp [M.wsum_len]; omega)]
  simp

/-- Which cells a range has; the order of keys. -/
def M.inR (lo hi : List UInt8) (c : M.Cl) : Bool := !Op.bytesLess c.key lo && (hi.isEmpty || Op.bytesLess c.key hi)
def M.rangeL (lo hi : List UInt8) (L : List M.Cl) : List M.Cl := L.filter (M.inR lo hi)
theorem M.le_less {a b c : List UInt8} (h : Op.bytesLess b a = false) (k : Op.bytesLess b c = true) : Op.bytesLess a c = true := by
  by_cases e : a = b
  · subst e; exact k
  · have := M.less_flip a b e
    rw [this] at h
    exact M.less_trans _ _ _ (by simpa using h) k
theorem M.less_le {a b c : List UInt8} (h : Op.bytesLess a b = true) (k : Op.bytesLess c b = false) : Op.bytesLess a c = true := by
  by_cases e : c = b
  · subst e; exact h
  · have := M.less_flip b c (fun h => e h.symm)
    rw [this] at k
    exact M.less_trans _ _ _ h (by simpa using k)
theorem M.key_mono {L : List M.Cl} (h : M.srt none L = true) {i j : Nat} (hij : i ≤ j) (hj : j < L.length) : Op.bytesLess (L.getD j M.cl0).key (L.getD i M.cl0).key = false := by
  rcases Nat.lt_or_ge i j with q | q
  · rcases M.ahead_iff.1 (M.srt_pair h i j q hj) with r | ⟨r, _⟩
    · cases k : Op.bytesLess (L.getD j M.cl0).key (L.getD i M.cl0).key with
      | false => rfl
      | true => have := M.less_trans _ _ _ r k; rw [M.less_irr] at this; cases this
    · rw [r, M.less_irr]
  · obtain rfl : i = j := by omega
    exact M.less_irr _
/-- The first keys, and the bytes, of so many blocks. -/
def M.firsts (L : List M.Cl) (k : Nat) : List (List UInt8) := (List.range k).map (fun i => (L.getD (4 * i) M.cl0).key)
def M.blksB (L : List M.Cl) (k : Nat) : List (List UInt8) := (List.range k).map (fun i => M.encCs (M.blk L i))
theorem M.firsts_snoc (L : List M.Cl) (k : Nat) : M.firsts L (k + 1) = M.firsts L k ++ [(L.getD (4 * k) M.cl0).key] := by simp [M.firsts, List.range_succ]
theorem M.blksB_snoc (L : List M.Cl) (k : Nat) : M.blksB L (k + 1) = M.blksB L k ++ [M.encCs (M.blk L k)] := by simp [M.blksB, List.range_succ]
theorem M.firsts_get (L : List M.Cl) {k i : Nat} (h : i < k) : (M.firsts L k).getD i [] = (L.getD (4 * i) M.cl0).key := by simp [M.firsts, List.getD, h]
theorem M.blksB_get (L : List M.Cl) {k i : Nat} (h : i < k) : (M.blksB L k).getD i [] = M.encCs (M.blk L i) := by simp [M.blksB, List.getD, h]
theorem M.firsts_len (L : List M.Cl) (k : Nat) : (M.firsts L k).length = k := by simp [M.firsts]
theorem M.blksB_len (L : List M.Cl) (k : Nat) : (M.blksB L k).length = k := by simp [M.blksB]
/-- Cells of blocks ahead of the one in which a key may begin. -/
theorem M.ahead_start {L : List M.Cl} (h : M.srt none L = true) {key : List UInt8} {s : Nat} (hs : s = 0 ∨ (4 * s < L.length ∧ Op.bytesLess (L.getD (4 * s) M.cl0).key key = true)) {j : Nat} (hj : j < 4 * s) : Op.bytesLess (L.getD j M.cl0).key key = true := by
  rcases hs with rfl | ⟨h1, h2⟩
  · omega
  · exact M.le_less (M.key_mono h (by omega) h1) h2
theorem M.mem_getD {L : List M.Cl} {n : Nat} {c : M.Cl} (h : c ∈ L.take n) : ∃ j, j < n ∧ j < L.length ∧ L.getD j M.cl0 = c := by
  obtain ⟨j, hj, rfl⟩ := List.getElem_of_mem h
  simp only [List.length_take] at hj
  have h2 : j < L.length := by omega
  exact ⟨j, by omega, h2, by simp [List.getD, h2]⟩
theorem M.mem_getD' {L : List M.Cl} {n : Nat} {c : M.Cl} (h : c ∈ L.drop n) : ∃ j, n ≤ j ∧ j < L.length ∧ L.getD j M.cl0 = c := by
  obtain ⟨j, hj, rfl⟩ := List.getElem_of_mem h
  simp at hj
  exact ⟨n + j, by omega, by omega, by simp [List.getD, show n + j < L.length by omega]⟩
theorem M.range_start {L : List M.Cl} (h : M.srt none L = true) {lo hi : List UInt8} {s : Nat} (hs : s = 0 ∨ (4 * s < L.length ∧ Op.bytesLess (L.getD (4 * s) M.cl0).key lo = true)) : M.rangeL lo hi (L.take (4 * s)) = [] := by
  rw [M.rangeL, List.filter_eq_nil_iff]
  intro c hc
  obtain ⟨j, h1, h2, rfl⟩ := M.mem_getD hc
  simp only [M.inR, M.ahead_start h hs h1]
  simp
theorem M.range_snoc (L : List M.Cl) (lo hi : List UInt8) (k : Nat) : M.rangeL lo hi (L.take (4 * (k + 1))) = M.rangeL lo hi (L.take (4 * k)) ++ M.rangeL lo hi (M.blk L k) := by
  rw [M.take_blk, M.rangeL, List.filter_append]; rfl
theorem M.range_end {L : List M.Cl} (h : M.srt none L = true) {lo hi : List UInt8} {k : Nat} (hh : hi.isEmpty = false) (hk : Op.bytesLess (L.getD (4 * k) M.cl0).key hi = false) : M.rangeL lo hi L = M.rangeL lo hi (L.take (4 * k)) := by
  conv => lhs; rw [← List.take_append_drop (4 * k) L]
  rw [M.rangeL, List.filter_append, M.rangeL]
  have : (L.drop (4 * k)).filter (M.inR lo hi) = [] := by
    rw [List.filter_eq_nil_iff]
    intro c hc
    obtain ⟨j, h1, h2, rfl⟩ := M.mem_getD' hc
    have h3 := M.key_mono h h1 h2
    have : Op.bytesLess (L.getD j M.cl0).key hi = false := by
      cases q : Op.bytesLess (L.getD j M.cl0).key hi with
      | false => rfl
      | true => rw [M.le_less h3 q] at hk; cases hk
    simp only [M.inR, this, hh]
    simp
  rw [this, List.append_nil]
theorem M.find_append (k : List UInt8) (A B : List M.Cl) : M.findL k (A ++ B) = match M.findL k A with
  | some x => some x
  | none => M.findL k B := by
  rw [M.findL, List.find?_append]
  unfold M.findL
  cases A.find? (fun c => decide (c.key = k)) <;> rfl
theorem M.find_start {L : List M.Cl} (h : M.srt none L = true) {key : List UInt8} {s : Nat} (hs : s = 0 ∨ (4 * s < L.length ∧ Op.bytesLess (L.getD (4 * s) M.cl0).key key = true)) : M.findL key (L.take (4 * s)) = none := by
  rw [M.findL, List.find?_eq_none]
  intro c hc
  obtain ⟨j, h1, h2, rfl⟩ := M.mem_getD hc
  have := M.ahead_start h hs h1
  simp only [decide_eq_true_eq]
  intro e
  rw [e, M.less_irr] at this
  cases this
theorem M.find_snoc (L : List M.Cl) (key : List UInt8) (k : Nat) (h : M.findL key (L.take (4 * k)) = none) : M.findL key (L.take (4 * (k + 1))) = M.findL key (M.blk L k) := by
  rw [M.take_blk, M.find_append, h]
theorem M.find_hit (L : List M.Cl) (key : List UInt8) (n : Nat) {c : M.Cl} (h : M.findL key (L.take n) = some c) : M.findL key L = some c := by
  conv => lhs; rw [← List.take_append_drop n L]
  rw [M.find_append, h]
theorem M.find_end {L : List M.Cl} (h : M.srt none L = true) {key : List UInt8} {k : Nat} (hk : Op.bytesLess key (L.getD (4 * k) M.cl0).key = true) (hf : M.findL key (L.take (4 * k)) = none) : M.findL key L = none := by
  conv => lhs; rw [← List.take_append_drop (4 * k) L]
  rw [M.find_append, hf]
  simp only
  rw [M.findL, List.find?_eq_none]
  intro c hc
  obtain ⟨j, h1, h2, rfl⟩ := M.mem_getD' hc
  simp only [decide_eq_true_eq]
  intro e
  have h3 := M.key_mono h h1 h2
  rw [e, hk] at h3
  cases h3

end Go.Proofs.Ythidmgnfdikppaa
