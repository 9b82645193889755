/- Layer 10: a sorted list's cells of one key; what 'opened' comes to. -/
import Derived.Test.YthidmgnfdikppaaTablesW2
namespace Go.Proofs.Ythidmgnfdikppaa
set_option linter.unusedVariables false
open Go Go.RowKit
attribute [local go_sem ↓] run_index_S
attribute [local go_sem] S_append S_extract

theorem M.less_nil0 : ∀ (a : List UInt8), Op.bytesLess a [] = false
  | [] => rfl
  | _ :: _ => rfl
theorem M.less_snoc0 : ∀ (k a : List UInt8), Op.bytesLess a (k ++ [0]) = !Op.bytesLess k a
  | [], [] => rfl
  | [], y :: a => by
    have : ¬ y < 0 := UInt8.not_lt_zero
    simp [Op.bytesLess, M.less_nil0]
  | x :: k, [] => rfl
  | x :: k, y :: a => by
    have ih := M.less_snoc0 k a
    by_cases e : x = y
    · subst e
      simp [Op.bytesLess, ih, UInt8.lt_irrefl]
    · have h : decide (y < x) = !decide (x < y) := by
        rcases UInt8.lt_or_lt_of_ne e with h | h
        · have := UInt8.lt_asymm h; simp [h, this]
        · have := UInt8.lt_asymm h; simp [h, this]
      have e2 : (y == x) = false := by simpa using fun h => e h.symm
      have e3 : (x == y) = false := by simpa using e
      simp only [Op.bytesLess, List.cons_append, e2, e3, h, Bool.false_and, Bool.or_false]
theorem M.filter_cut {L : List M.Cl} {p : M.Cl → Bool} {f l : Nat} (h1 : f ≤ l) (h2 : l ≤ L.length) (h : ∀ k, k < L.length → p (L.getD k M.cl0) = (decide (f ≤ k) && decide (k < l))) : L.filter p = pieceC L f l := by
  have hg : ∀ k (hk : k < L.length), p L[k] = (decide (f ≤ k) && decide (k < l)) := fun k hk => by
    have := h k hk
    rwa [show L.getD k M.cl0 = L[k] from by simp [List.getD, hk]] at this
  have e : L = L.take f ++ (pieceC L f l ++ L.drop l) := by
    have e1 : pieceC L f l ++ L.drop l = L.drop f := by
      have := List.take_append_drop (l - f) (L.drop f)
      rwa [List.drop_drop, show f + (l - f) = l from by omega] at this
    rw [e1, List.take_append_drop]
  have a1 : (L.take f).filter p = [] := by
    rw [List.filter_eq_nil_iff]
    intro a ha
    obtain ⟨k, hk, rfl⟩ := List.getElem_of_mem ha
    rw [List.length_take] at hk
    rw [List.getElem_take, hg k (by omega)]
    have : ¬ f ≤ k := by omega
    simp [this]
  have a2 : (pieceC L f l).filter p = pieceC L f l := by
    rw [List.filter_eq_self]
    intro a ha
    obtain ⟨k, hk, rfl⟩ := List.getElem_of_mem ha
    have hk' := hk
    unfold pieceC at hk'
    rw [List.length_take, List.length_drop] at hk'
    have : (pieceC L f l)[k] = L[f + k]'(by omega) := by
      simp only [pieceC, List.getElem_take, List.getElem_drop]
    rw [this, hg (f + k) (by omega)]
    have q1 : f ≤ f + k := by omega
    have q2 : f + k < l := by omega
    simp [q2]
  have a3 : (L.drop l).filter p = [] := by
    rw [List.filter_eq_nil_iff]
    intro a ha
    obtain ⟨k, hk, rfl⟩ := List.getElem_of_mem ha
    rw [List.length_drop] at hk
    rw [List.getElem_drop, hg (l + k) (by omega)]
    have : ¬ l + k < l := by omega
    simp [this]
  conv => lhs; rw [e]
  rw [List.filter_append, List.filter_append, a1, a2, a3, List.append_nil, List.nil_append]
/-- The cells of one key lie from f up to l. -/
structure M.Grp (L : List M.Cl) (key : List UInt8) (f l : Nat) : Prop where
  fl : f < l
  n : l ≤ L.length
  a : ∀ k, k < f → Op.bytesLess (L.getD k M.cl0).key key = true
  b : ∀ k, f ≤ k → k < l → (L.getD k M.cl0).key = key
  c : ∀ k, l ≤ k → k < L.length → Op.bytesLess key (L.getD k M.cl0).key = true
theorem M.less_asym {a b : List UInt8} (h : Op.bytesLess a b = true) : Op.bytesLess b a = false := by
  cases q : Op.bytesLess b a with
  | false => rfl
  | true => have := M.less_trans _ _ _ h q; rw [M.less_irr] at this; cases this
theorem M.Grp.one {L : List M.Cl} {key : List UInt8} {f l : Nat} (h : M.Grp L key f l) : M.rangeL key (key ++ [0]) L = pieceC L f l := by
  refine M.filter_cut (by have := h.fl; omega) h.n (fun k hk => ?_)
  have hne : (key ++ [(0 : UInt8)]).isEmpty = false := by cases key <;> rfl
  unfold M.inR
  rw [M.less_snoc0, hne, Bool.false_or]
  rcases Nat.lt_or_ge k f with q | q
  · rw [h.a k q]; have : ¬ f ≤ k := by omega
    simp [this]
  · rcases Nat.lt_or_ge k l with r | r
    · rw [h.b k q r, M.less_irr]; simp [q, r]
    · rw [h.c k r hk]; have : ¬ k < l := by omega
      simp [this]
theorem M.Grp.all {L : List M.Cl} {key : List UInt8} {f l : Nat} (h : M.Grp L key f l) : M.rangeL key [] L = pieceC L f L.length := by
  refine M.filter_cut (by have := h.fl; have := h.n; omega) (Nat.le_refl _) (fun k hk => ?_)
  unfold M.inR
  rw [List.isEmpty_nil, Bool.true_or, Bool.and_true]
  rcases Nat.lt_or_ge k f with q | q
  · rw [h.a k q]; have : ¬ f ≤ k := by omega
    simp [this]
  · rcases Nat.lt_or_ge k l with r | r
    · rw [h.b k q r, M.less_irr]; simp [q, hk]
    · rw [M.less_asym (h.c k r hk)]; simp [q, hk]
theorem M.Grp.find {L : List M.Cl} {key : List UInt8} {f l : Nat} (h : M.Grp L key f l) : M.findL key L = some (L.getD f M.cl0) := by
  have hf : f < L.length := by have := h.fl; have := h.n; omega
  have e : L = L.take f ++ (L.getD f M.cl0 :: L.drop (f + 1)) := by
    have e1 : L.getD f M.cl0 :: L.drop (f + 1) = L.drop f := by
      rw [show L.getD f M.cl0 = L[f] from by simp [List.getD, hf]]
      exact List.getElem_cons_drop ..
    rw [e1, List.take_append_drop]
  have a1 : M.findL key (L.take f) = none := by
    unfold M.findL
    rw [List.find?_eq_none]
    intro a ha
    obtain ⟨k, hk, rfl⟩ := List.getElem_of_mem ha
    rw [List.length_take] at hk
    have q := h.a k (by omega)
    rw [show L.getD k M.cl0 = L[k]'(by omega) from by simp [List.getD, show k < L.length from by omega]] at q
    rw [List.getElem_take]
    intro e
    rw [decide_eq_true_eq] at e
    rw [e, M.less_irr] at q
    cases q
  conv => lhs; rw [e]
  rw [M.find_append, a1]
  simp only
  rw [M.findL_cons, if_pos (h.b f (Nat.le_refl _) h.fl)]
/-- From what the two loops find. -/
theorem M.grp_of {L : List M.Cl} {i f l : Nat} (hs : M.srt none L = true) (hi : i < L.length) (hf : f ≤ i) (hl : i < l) (hn : l ≤ L.length)
    (H1 : ∀ k, f ≤ k → k ≤ i → (L.getD k M.cl0).key = (L.getD i M.cl0).key) (E1 : f = 0 ∨ (L.getD (f - 1) M.cl0).key ≠ (L.getD i M.cl0).key)
    (H2 : ∀ k, i ≤ k → k < l → (L.getD k M.cl0).key = (L.getD i M.cl0).key) (E2 : l = L.length ∨ (L.getD l M.cl0).key ≠ (L.getD i M.cl0).key) :
    M.Grp L (L.getD i M.cl0).key f l := by
  refine ⟨by omega, hn, fun k hk => ?_, fun k h1 h2 => ?_, fun k h1 h2 => ?_⟩
  · rcases E1 with rfl | E1
    · omega
    · have m1 := M.key_mono hs (show k ≤ f - 1 by omega) (by omega)
      have m2 := M.key_mono hs (show f - 1 ≤ i by omega) hi
      have m3 : Op.bytesLess (L.getD (f - 1) M.cl0).key (L.getD i M.cl0).key = true := by
        rw [M.less_flip _ _ (fun h => E1 h.symm), m2]; rfl
      exact M.le_less m1 m3
  · by_cases q : k ≤ i
    · exact H1 k h1 q
    · exact H2 k (by omega) h2
  · rcases E2 with rfl | E2
    · omega
    · have m1 := M.key_mono hs h1 h2
      have m2 := M.key_mono hs (show i ≤ l by omega) (by omega)
      have m3 : Op.bytesLess (L.getD i M.cl0).key (L.getD l M.cl0).key = true := by
        rw [M.less_flip _ _ E2, m2]; rfl
      exact M.less_le m3 m1
theorem openT_nil10 : M.openT [] = none := M.openT_none (fun L hL => by
  have := tab_long hL
  simp at this)
set_option maxHeartbeats 2000000 in
set_option maxRecDepth 100000 in
theorem opened10_no (L : List M.Cl) (ao : Option Addr) (cap : Nat) (W : World) (hL : ClsAt W ao L) (hl : L.length ≤ 300) (hc : L.length ≤ cap) (hv : ∀ c ∈ L, ClOk c) (hs : M.srt none L = false) :
    Calls Try.prog 38 #[.slice ao L.length cap] W fun e w' => e = .returned (.tuple #[.pointer none, .bool false]) ∧ Below W.heap.size W w' := by
  have CB := Lib.hid (build10_any L (by omega) ao cap hc W hL hv)
  unfold BuildR at CB
  rw [bE_few (by omega), bN_no hs, bS_no hs] at CB
  have CO := Lib.hid (fun V => open10_any [] (by simp) V)
  unfold OpenR10 at CO
  rw [openT_nil10] at CO
  simp only at CO
  clear hL hv hs
  go_enter Try.func38, Try.ntmps38
  go_wp2_with fail
  with_reducible refine (CB.out).mono ?_
  rintro e w1 ⟨rfl, hbq⟩
  have HB := Lib.hid hbq
  clear hbq
  go_wp2_with fail
  with_reducible refine (CO.out _).mono ?_
  rintro e w2 ⟨rfl, hbq⟩
  replace HB := carry hbq HB
  clear hbq
  go_wp2_with fail
  go_ret2
  exact ⟨rfl, HB.out⟩
set_option maxHeartbeats 2000000 in
set_option maxRecDepth 100000 in
theorem opened10_yes (L : List M.Cl) (ao : Option Addr) (cap : Nat) (W : World) (hL : ClsAt W ao L) (hl : L.length ≤ 300) (hc : L.length ≤ cap) (hi : ∀ x ∈ L, x.ints) (hv : ∀ c ∈ L, ClOk c) (hs : M.srt none L = true) :
    Calls Try.prog 38 #[.slice ao L.length cap] W fun e w' => ∃ p, e = .returned (.tuple #[.pointer (some ⟨p, 0, none⟩), .bool true]) ∧ TabAt L p w' ∧ Below W.heap.size W w' := by
  have CB := Lib.hid (build10_any L (by omega) ao cap hc W hL hv)
  unfold BuildR at CB
  rw [bE_few (by omega), bN_ok hs, bS_ok hs] at CB
  have htl := tab_len10 hs (by omega)
  have CO := Lib.hid (fun V => by
    have := open10_any (M.tableT L) (by omega) V
    unfold OpenR10 at this
    rw [M.openT_some (isT_self hs (by omega) hi)] at this
    exact this)
  simp only at CO
  generalize M.tableT L = t at *
  clear hL hi hv hs
  go_enter Try.func38, Try.ntmps38
  go_wp2_with fail
  with_reducible refine (CB.out).mono ?_
  rintro e w1 ⟨rfl, hbq⟩
  have HB := Lib.hid hbq
  clear hbq
  go_wp2_with fail
  with_reducible refine (CO.out _).mono ?_
  rintro e w2 ⟨⟨p, rfl, ht⟩, hbq⟩
  replace HB := carry hbq HB
  have HT := Lib.hid ht
  clear hbq ht
  go_wp2_with fail
  go_ret2
  exact ⟨p, rfl, HT.out, HB.out⟩

end Go.Proofs.Ythidmgnfdikppaa
