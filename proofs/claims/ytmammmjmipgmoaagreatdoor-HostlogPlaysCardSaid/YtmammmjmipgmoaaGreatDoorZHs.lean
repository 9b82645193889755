import Derived.Test.YtmammmjmipgmoaaGreatDoorZHf
import Derived.Test.YtmammmjmipgmoaaGreatDoorZQh
set_option linter.unusedVariables false
set_option maxRecDepth 100000
set_option maxHeartbeats 16000000
namespace Go.Proofs.YtmammmjmipgmoaaGreatDoor
section
open Go Go.RowKit
namespace Hl
def HasS (F : Nat) (Z : List Sg) (tl : List UInt8) (L : List Dk.Fl) : Prop := (Z = [] ∧ tl = [] ∧ Has0 L) ∨ ∃ A z, Z = A ++ [z] ∧ HasZ F A z tl L
theorem chain_of (z : Sg) : ∀ (A : List Sg) (F : Nat), ChA F A → z.n = F + cnt A → ∀ i (hi : i + 1 < (A ++ [z]).length), (A ++ [z])[i + 1].n = (A ++ [z])[i].n + (A ++ [z])[i].L.length
 | [], F, _, _, i, hi => by simp at hi
 | [t], F, ⟨q1, _, _⟩, hz, 0, hi => by
  have hc : cnt [t] = t.L.length := by unfold cnt; rw [flat_one]
  show z.n = t.n + t.L.length
  omega
 | t :: u :: A, F, ⟨q1, _, q2, _, _⟩, hz, 0, hi => by
  show u.n = t.n + t.L.length
  omega
 | t :: A, F, ⟨q1, q2, q3⟩, hz, i + 1, hi => by
  have hc := cnt_cons t A;exact chain_of z A (F + t.L.length) q3 (by omega) i (by simpa using hi)
theorem ChA.len : ∀ {A : List Sg} {F : Nat}, ChA F A → A.length ≤ cnt A
 | [], _, _ => Nat.zero_le _
 | t :: A, F, ⟨_, q2, q3⟩ => by
  have := List.length_pos_iff.2 q2;have := q3.len;rw [cnt_cons, List.length_cons];omega
section
variable {F : Nat} {A Z : List Sg} {z : Sg} {tl : List UInt8} {L : List Dk.Fl} {D : Dk.St}
theorem HasZ.load (h : HasZ F A z tl D.L) (hu : D.up = true) : LdOk D (A ++ [z]) tl where
 nums := h.nums
 read i hi := by
  unfold Dk.read;rw [if_neg (by rw [hu]; simp)];by_cases hl : i + 1 = (A ++ [z]).length
  ·have hi' : i = A.length := by simp at hl; omega
   subst hi';rw [if_pos hl, List.getElem_concat_length rfl, if_neg (by rw [h.last.1]; simp), h.last.2]
  ·have hi' : i < A.length := by simp at hl hi; omega
   have hw := h.whole A[i] (List.getElem_mem hi');rw [if_neg hl, List.getElem_append_left hi', if_neg (by rw [hw.1]; simp), hw.2, List.append_nil]
 mays s hs := by
  rcases List.mem_append.1 hs with q | q
  ·exact h.mays s q
  ·obtain rfl := List.mem_singleton.1 q
   exact h.mayz
 tail := h.tail
 chain := chain_of z A F h.ch h.zn
 few := by
  have h1 := h.ch.len;have h2 := h.zn;have h3 := h.small;simp only [List.length_append, List.length_cons, List.length_nil];omega
 small s hs := by
  rcases List.mem_append.1 hs with q | q
  ·have h1 := h.ch.lt s q
   have h2 := h.zn;have h3 := h.small;omega
  ·obtain rfl := List.mem_singleton.1 q
   exact h.small
 none e := by simp at e
theorem Has0.load (h : Has0 D.L) : LdOk D [] [] where
 nums := h.nums
 read i hi := by simp at hi
 mays s hs := by cases hs
 tail := tail_nil
 chain i hi := by simp at hi
 few := by simp
 small s hs := by cases hs
 none _ := rfl
theorem HasS.load (h : HasS F Z tl D.L) (hu : D.up = true) : LdOk D Z tl := by
 rcases h with ⟨rfl, rfl, h⟩ | ⟨A, z, rfl, h⟩
 ·exact h.load
 ·exact h.load hu
theorem HasS.deld (h : HasS F Z tl L) : HasS F Z tl (Dk.del nD L) := by
 rcases h with ⟨h1, h2, h⟩ | ⟨A, z, h1, h⟩
 ·exact .inl ⟨h1, h2, h.deld⟩
 ·exact .inr ⟨A, z, h1, h.deld⟩
theorem del_none {nmm : List UInt8} (h : ¬ Dk.has nmm L = true) : Dk.del nmm L = L := by
 unfold Dk.has at h;unfold Dk.del;rw [List.filter_eq_self];intro f hf;cases hq : (f.name == nmm) with
 | false => rfl
 | true => exact absurd (List.any_eq_true.2 ⟨f, hf, hq⟩) h
theorem clear_two (hu : D.up = true) : (∃ s, Dk.clear nD D = (0, { D with set := s, L := Dk.del nD D.L }) ∧ (D.set = none → s = none)) ∨ (D.set ≠ none ∧ ∃ ks, Dk.clear nD D = (51, Dk.fall ks D)) := by
 unfold Dk.clear;by_cases hd : Dk.has nD D.L = true
 ·rw [if_pos hd]
  exact Dk.remove_two hu hd
 ·rw [if_neg hd, del_none hd]
  exact .inl ⟨D.set, rfl, id⟩
theorem clear_ok (hu : D.up = true) (h0 : (Dk.clear nD D).1 = 0) : ∃ s, Dk.clear nD D = (0, { D with set := s, L := Dk.del nD D.L }) ∧ (D.set = none → s = none) := by
 rcases clear_two hu with h | ⟨_, ks, e⟩
 ·exact h
 ·rw [e] at h0
  cases h0
theorem smOf_size (z : Sg) : (smOf z).size = (dat z.L).length := by
 unfold Sm.size smOf;by_cases hne : z.L = []
 ·rw [hne]; rfl
 ·show (ends z.L).getD ((ends z.L).length - 1) 0 = _
  rw [show (ends z.L).length = z.L.length from by unfold ends; simp];exact ends_last z.L hne
theorem lastS_of (st : Nat) (o : Bool) (A : List Sg) (z : Sg) : lastS ⟨st, o, (A ++ [z]).map smOf⟩ = smOf z := by
 unfold lastS;simp
theorem HasS.torn (h : HasS F Z tl D.L) (hu : D.up = true) (ht : tl ≠ []) (h0 : (Dk.clear nD D).1 = 0) :
  (lastS ⟨D.starts, false, Z.map smOf⟩).size ≤ (Dk.read (nm (lastS ⟨D.starts, false, Z.map smOf⟩).n) (Dk.clear nD D).2).2.length ∧ (Dk.read (nm (lastS ⟨D.starts, false, Z.map smOf⟩).n) (Dk.clear nD D).2).2.length ≤ 10000000 := by
 obtain ⟨s, e, _⟩ := clear_ok hu h0;rcases h with ⟨_, h2, _⟩ | ⟨A, z, rfl, h⟩
 ·exact absurd h2 ht
 rw [e, lastS_of, smOf_size];have hd := h.deld.last
 have hr : (Dk.read (nm (smOf z).n) { D with set := s, L := Dk.del nD D.L }).2 = dat z.L ++ tl := by
  unfold Dk.read;show (if D.up = false then _ else if Dk.has (nm z.n) (Dk.del nD D.L) = false then _ else _ : Int × List UInt8).2 = _
  rw [if_neg (by rw [hu]; simp), if_neg (by rw [hd.1]; simp)];exact hd.2
 rw [hr, List.length_append];have h1 := dat_most h.mayz;have h2 := h.tail.2;have h3 := h.small;exact ⟨by omega, by omega⟩
theorem put_old {f : Dk.Fl} (hok : Dk.OkL L) (hh : Dk.has f.name L = true) : (Dk.put f L).length = L.length ∧ Dk.size (Dk.put f L) + (Dk.get f.name L).dat.length = Dk.size L + f.dat.length := by
 have h1 := Dk.len_put hok f;rw [hh, if_pos rfl] at h1;exact ⟨by omega, Dk.size_put hok f⟩
theorem put_fresh {f : Dk.Fl} (hok : Dk.OkL L) (hh : Dk.has f.name L = false) : (Dk.put f L).length = L.length + 1 ∧ Dk.size (Dk.put f L) = Dk.size L + f.dat.length := by
 have h1 := Dk.len_put hok f;have h2 := Dk.size_put hok f;rw [hh] at h1;rw [Dk.get_none hh] at h2;exact ⟨by simpa using h1, by simpa [Dk.fl0] using h2⟩
def SafeZ (Z : List Sg) (L : List Dk.Fl) : Prop := ∀ z, Z.getLast? = some z → (Dk.get (nm z.n) L).safe = (Dk.get (nm z.n) L).dat.length
theorem lastS_nil {G : Lg} (hg : G.S = Z.map smOf) : G.S = [] ↔ Z = [] := by rw [hg, List.map_eq_nil_iff]
theorem sync_last {G : Lg} (h : HasS F Z [] D.L) (hu : D.up = true) (hg : G.S = Z.map smOf) :
  (∃ s L', syncL G D = (0, { D with set := s, L := L' }) ∧ HasS F Z [] L' ∧ SafeZ Z L' ∧ (D.set = none → s = none) ∧ L'.length = D.L.length ∧ Dk.size L' = Dk.size D.L) ∨ (D.set ≠ none ∧ ∃ ks, syncL G D = (51, Dk.fall ks D)) := by
 unfold syncL;by_cases hz : G.S = []
 ·rw [if_pos hz]
  have h0 := (lastS_nil hg).1 hz;refine .inl ⟨D.set, D.L, rfl, h, fun z q => ?_, id, rfl, rfl⟩;rw [h0] at q;cases q
 ·rw [if_neg hz]
  rcases h with ⟨h1, _, _⟩ | ⟨A, z, rfl, h⟩
  ·exact absurd ((lastS_nil hg).2 h1) hz
  have hl : lastS G = smOf z := by unfold lastS; rw [hg]; simp
  rw [hl];rcases Dk.sync_two (nm := nm z.n) hu h.last.1 with ⟨s, e, hs⟩ | hf
  ·have hd : (Dk.get (nm z.n) D.L).dat = dat z.L ++ [] := h.last.2
   have hp := h.putz (k := (dat z.L ++ []).length) rfl h.mayz h.tail (Nat.le_refl _) h.small;have hq := put_old (f := ⟨nm z.n, (Dk.get (nm z.n) D.L).dat, (Dk.get (nm z.n) D.L).dat.length⟩) h.ok h.last.1;simp only at hq;rw [hd] at e hq;refine .inl ⟨s, _, e, .inr ⟨A, z, rfl, hp⟩, fun y q => ?_, hs, hq.1, by have := hq.2; omega⟩;have hy : y = z := by simpa using q.symm
   subst hy;have he := get_put_eq (f := ⟨nm y.n, dat y.L ++ [], (dat y.L ++ []).length⟩) hp.ok;simp only at he;rw [he.2]
  ·exact .inr hf
theorem lastS_map {G : Lg} (hg : G.S = (A ++ [z]).map smOf) : lastS G = smOf z := by unfold lastS; rw [hg]; simp
theorem put1_segs {G : Lg} (hg : G.S = (A ++ [z]).map smOf) (x : M.Sp) : (G.put1 (fr x).length).S = (A ++ [(⟨z.n, z.L ++ [x]⟩ : Sg)]).map smOf := by
 unfold Lg.put1;rw [lastS_map hg, smOf_size];show G.S.dropLast ++ [_] = _
 rw [hg, List.map_append, List.map_append, List.map_cons, List.map_nil, List.dropLast_concat];show _ ++ [(⟨z.n, ends z.L ++ [_]⟩ : Sm)] = _ ++ [(⟨z.n, ends (z.L ++ [x])⟩ : Sm)]
 rw [ends_snoc]
theorem lay_last {G : Lg} (h : HasZ F A z [] D.L) (hu : D.up = true) (hg : G.S = (A ++ [z]).map smOf) {x : M.Sp} (hx : M.mayB x = true ∧ x.fits) (hs : z.n + z.L.length + 1 ≤ 900) (hf : D.L.length ≠ 1024) (hz : Dk.size D.L + (fr x).length ≤ D.room) :
  ∃ L', HasZ F A ⟨z.n, z.L ++ [x]⟩ [] L' ∧ (Dk.get (nm z.n) L').safe = (Dk.get (nm z.n) D.L).safe ∧ (L'.length = D.L.length ∧ Dk.size L' = Dk.size D.L + (fr x).length) ∧ ((∃ s, Dk.append (nm (lastS G).n) (fr x) D = (0, { D with set := s, L := L' }) ∧ (D.set = none → s = none)) ∨ (D.set ≠ none ∧ ∃ ks, Dk.append (nm (lastS G).n) (fr x) D = (51, Dk.fall ks { D with L := L' }))) := by
 rw [lastS_map hg];have hd : (Dk.get (nm z.n) D.L).dat = dat z.L := by rw [h.last.2, List.append_nil]
 have hx' : Mays (z.L ++ [x]) := h.mayz.app fun y hy => by obtain rfl := List.mem_singleton.1 hy; exact hx
 have e1 : dat (z.L ++ [x]) ++ [] = dat z.L ++ fr x := by rw [dat_app, dat_cons, dat_nil]; simp
 have hk : (Dk.get (nm z.n) D.L).safe ≤ (dat z.L ++ fr x).length := by
  have hm := h.ok.safe _ (Dk.get_mem h.last.1).1;rw [hd] at hm;rw [List.length_append];omega
 have hp := h.putz (z' := ⟨z.n, z.L ++ [x]⟩) (tl' := []) (k := (Dk.get (nm z.n) D.L).safe) rfl hx' tail_nil (by rw [e1]; exact hk) (by simp; omega);have e2 := Dk.append_two (nm := nm z.n) (s := fr x) hu (named_nm h.n1) hf hz;rw [hd] at e2;simp only [e1] at hp;have hq := put_old (f := ⟨nm z.n, dat z.L ++ fr x, (Dk.get (nm z.n) D.L).safe⟩) h.ok h.last.1;simp only [hd, List.length_append] at hq;refine ⟨_, hp, ?_, ⟨hq.1, by have := hq.2; omega⟩, e2⟩;have he := get_put_eq (f := ⟨nm z.n, dat z.L ++ fr x, (Dk.get (nm z.n) D.L).safe⟩) hp.ok;simp only at he;rw [he.2]
theorem HasZ.fresh (h : HasZ F A z tl L) (hz : z.L ≠ []) (hs : z.n + z.L.length ≤ 900) : Dk.has (nm (z.n + z.L.length)) L = false := by
 have hp := List.length_pos_iff.2 hz;unfold Dk.has;rw [List.any_eq_false];intro f hf q;have q : f.name = nm (z.n + z.L.length) := by simpa using q
 rcases h.names f hf with e | e | ⟨s, hs', e⟩
 ·exact nm_nD (n := z.n + z.L.length) (by omega) (q.symm.trans e)
 ·have := nm_inj (by omega) h.n1 (q.symm.trans e)
  omega
 ·have h1 := h.nA hs'
  have := nm_inj (by omega) h1.2 (q.symm.trans e);omega
theorem Has0.fresh (h : Has0 L) : Dk.has (nm 0) L = false := by
 unfold Dk.has;rw [List.any_eq_false];intro f hf q;have q : f.name = nm 0 := by simpa using q
 exact nm_nD (n := 0) (by omega) (q.symm.trans (h.names f hf))
theorem fl_ext {f : Dk.Fl} {a b : List UInt8} {k : Nat} (h1 : f.name = a) (h2 : f.dat = b) (h3 : f.safe = k) : f = ⟨a, b, k⟩ := by
 cases f; simp_all
theorem begin_last (h : HasZ F A z [] D.L) (hz : z.L ≠ []) (hsafe : SafeZ (A ++ [z]) D.L) (hu : D.up = true) {L0 : List M.Sp} (hm : Mays L0) (hs : z.n + z.L.length + L0.length ≤ 900) (hf : D.L.length ≠ 1024) (hr : Dk.size D.L + (dat L0).length ≤ D.room) :
  ∃ L', HasZ F (A ++ [z]) ⟨z.n + z.L.length, L0⟩ [] L' ∧ (L'.length = D.L.length + 1 ∧ Dk.size L' = Dk.size D.L + (dat L0).length) ∧ ((∃ s, Dk.append (nm (z.n + z.L.length)) (dat L0) D = (0, { D with set := s, L := L' }) ∧ (D.set = none → s = none)) ∨ (D.set ≠ none ∧ ∃ ks, Dk.append (nm (z.n + z.L.length)) (dat L0) D = (51, Dk.fall ks { D with L := L' }))) := by
 have hd : (Dk.get (nm z.n) D.L).dat = dat z.L := by rw [h.last.2, List.append_nil]
 have hsf := hsafe z (by simp);rw [hd] at hsf;have hg := fl_ext (Dk.get_mem h.last.1).2 hd hsf;have hp := h.next_ hz hg hm (Nat.zero_le _) hs;have e := Dk.append_two (nm := nm (z.n + z.L.length)) (s := dat L0) hu (named_nm (by omega)) hf hr;rw [Dk.get_none (h.fresh hz (by omega)), show Dk.fl0.dat ++ dat L0 = dat L0 from rfl, show Dk.fl0.safe = 0 from rfl] at e;exact ⟨_, hp, put_fresh (f := ⟨nm (z.n + z.L.length), dat L0, 0⟩) h.ok (h.fresh hz (by omega)), e⟩
theorem begin_first (h : Has0 D.L) (hu : D.up = true) {L0 : List M.Sp} (hm : Mays L0) (hs : L0.length ≤ 900) (hf : D.L.length ≠ 1024) (hr : Dk.size D.L + (dat L0).length ≤ D.room) :
  ∃ L', HasZ 0 [] ⟨0, L0⟩ [] L' ∧ (L'.length = D.L.length + 1 ∧ Dk.size L' = Dk.size D.L + (dat L0).length) ∧ ((∃ s, Dk.append (nm 0) (dat L0) D = (0, { D with set := s, L := L' }) ∧ (D.set = none → s = none)) ∨ (D.set ≠ none ∧ ∃ ks, Dk.append (nm 0) (dat L0) D = (51, Dk.fall ks { D with L := L' }))) := by
 have hp := h.next_ hm (Nat.zero_le _) hs;have e := Dk.append_two (nm := nm 0) (s := dat L0) hu (named_nm (by omega)) hf hr;rw [Dk.get_none h.fresh, show Dk.fl0.dat ++ dat L0 = dat L0 from rfl, show Dk.fl0.safe = 0 from rfl] at e;exact ⟨_, hp, put_fresh (f := ⟨nm 0, dat L0, 0⟩) h.ok h.fresh, e⟩
end
end Hl
end
section
open Go Go.RowKit
namespace Hl
theorem inn_cons (x : M.Sp) (X : List M.Sp) (c : Nat) : inn (x :: X) c = if (fr x).length ≤ c then inn X (c - (fr x).length) + 1 else 0 := by
 unfold inn;rw [ends_cons, List.countP_cons, List.countP_map];by_cases h : (fr x).length ≤ c
 ·rw [if_pos h, if_pos (by simpa using h)]
  congr 1
  refine List.countP_congr fun e _ => ?_
  simp only [Function.comp_apply, decide_eq_true_eq];omega
 ·rw [if_neg h, if_neg (by simpa using h), Nat.add_zero, List.countP_eq_zero]
  intro e _;simp only [Function.comp_apply, decide_eq_true_eq];omega
theorem inn_take : ∀ (X : List M.Sp) (c : Nat), (dat (X.take (inn X c))).length ≤ c
 | [], c => by rw [List.take_nil]; exact Nat.zero_le _
 | x :: X, c => by
  rw [inn_cons];by_cases h : (fr x).length ≤ c
  ·rw [if_pos h, List.take_succ_cons, dat_cons, List.length_append]
   have := inn_take X (c - (fr x).length);omega
  ·rw [if_neg h]; exact Nat.zero_le _
theorem inn_all {X : List M.Sp} {c : Nat} (h : (dat X).length ≤ c) : inn X c = X.length := by
 unfold inn;rw [← ends_len X, List.countP_eq_length];intro e he;unfold ends at he;obtain ⟨i, hi, rfl⟩ := List.mem_map.1 he;have h1 := dat_take_le X (i := i + 1) (j := X.length) (by have := List.mem_range.1 hi; omega);rw [List.take_length] at h1;simp only [decide_eq_true_eq];omega
theorem inn_app : ∀ (X Y : List M.Sp) (c : Nat), inn X c ≤ inn (X ++ Y) c
 | [], Y, c => Nat.zero_le _
 | x :: X, Y, c => by
  rw [List.cons_append, inn_cons, inn_cons];split
  ·have := inn_app X Y (c - (fr x).length); omega
  ·exact Nat.zero_le _
def sureN (Z : List Sg) (L : List Dk.Fl) : Nat := match Z.getLast? with
 | none => 0
 | some z => cnt Z.dropLast + sureZ z L
theorem sureN_snoc (A : List Sg) (z : Sg) (L : List Dk.Fl) : sureN (A ++ [z]) L = cnt A + sureZ z L := by unfold sureN; simp
theorem take_pre {α : Type} {P Q : List α} {m n : Nat} (h : P <+: Q) (hm : m ≤ P.length) (hn : m ≤ n) : P.take m <+: Q.take n := by
 obtain ⟨R, rfl⟩ := h
 have e : P.take m = ((P ++ R).take n).take m := by
  rw [List.take_take, Nat.min_eq_left hn, List.take_append_of_le_length hm]
 rw [e];exact List.take_prefix _ _
section
variable {F : Nat} {A Z : List Sg} {z : Sg} {tl : List UInt8} {L : List Dk.Fl} {D : Dk.St} {G : Lg}
theorem sureZ_le (z : Sg) (L : List Dk.Fl) : sureZ z L ≤ z.L.length := inn_le _ _
theorem sureN_le (Z : List Sg) (L : List Dk.Fl) : sureN Z L ≤ cnt Z := by
 rcases List.eq_nil_or_concat Z with rfl | ⟨A, z, rfl⟩
 ·exact Nat.zero_le _
 ·rw [List.concat_eq_append, sureN_snoc, cnt_snoc]
  have := sureZ_le z L;omega
theorem sureN_safe (h : HasS F Z tl L) (hs : SafeZ Z L) : sureN Z L = cnt Z := by
 rcases h with ⟨rfl, _, _⟩ | ⟨A, z, rfl, h⟩
 ·rfl
 ·rw [sureN_snoc, cnt_snoc]
  unfold sureZ;rw [hs z (by simp), h.last.2, inn_all (by rw [List.length_append]; omega)]
theorem cnt_flat (Z : List Sg) : (flat Z).length = cnt Z := rfl
theorem HasS.fell (h : HasS F Z tl L) (ks : List Int) : ∃ Z' tl', HasS F Z' tl' (Dk.cut ks L) ∧ SafeZ Z' (Dk.cut ks L) ∧ Z'.length = Z.length ∧ flat Z' <+: flat Z ∧ (flat Z).take (sureN Z L) <+: flat Z' ∧ (Z' = [] → Z = []) := by
 rcases h with ⟨rfl, rfl, h⟩ | ⟨A, z, rfl, h⟩
 ·exact ⟨[], [], .inl ⟨rfl, rfl, h.cut ks⟩, fun z q => (by cases q), rfl, List.prefix_refl _, List.take_prefix _ _, id⟩
 ·obtain ⟨j, tl', hj, hi, hh, hs⟩ := h.cut ks
  have hk := hi (sureZ z L) (sureZ_le z L) (inn_take _ _);refine ⟨A ++ [⟨z.n, z.L.take j⟩], tl', .inr ⟨A, _, rfl, hh⟩, fun y q => ?_, by simp, ?_, ?_, fun q => by simp at q⟩
  ·have hy : y = ⟨z.n, z.L.take j⟩ := by simpa using q.symm
   rw [hy];exact hs
  ·rw [flat_app, flat_app, flat_one, flat_one]
   exact (List.prefix_append_right_inj _).2 (List.take_prefix _ _)
  ·rw [flat_app, flat_app, flat_one, flat_one, sureN_snoc, List.take_append, cnt_flat, show cnt A + sureZ z L - cnt A = sureZ z L by omega, List.take_of_length_le (by rw [cnt_flat]; omega)]
   refine (List.prefix_append_right_inj _).2 ?_;have := take_pre (m := sureZ z L) (n := j) (List.prefix_refl z.L) (sureZ_le z L) hk;exact this
structure Lv (F : Nat) (Z : List Sg) (G : Lg) (D : Dk.St) : Prop where
 hz : HasS F Z [] D.L
 f0 : Z = [] → F = 0
 gs : G.S = Z.map smOf
 up : D.up = true
 st : D.starts = G.st
 ov : G.over = false
 len : D.L.length = Z.length
theorem Lv.state (h : Lv F Z G D) : state D G = 0 := by
 unfold Hl.state;rw [if_neg];rintro (q | q | q)
 ·rw [h.ov] at q; cases q
 ·rw [h.up] at q; cases q
 ·exact q h.st
theorem Lv.hold50 (h : Lv F Z G D) : G.hold 50 = G := by
 have := h.ov;cases G
 simp only [Lg.hold] at *;simp [this]
theorem HasS.small (h : HasS F Z tl L) (f0 : Z = [] → F = 0) : F + cnt Z ≤ 900 := by
 rcases h with ⟨rfl, _, _⟩ | ⟨A, z, rfl, h⟩
 ·rw [f0 rfl]; exact Nat.zero_le _
 ·have h1 := h.small
  have h2 := h.zn;rw [cnt_snoc]; omega
theorem HasS.few (h : HasS F Z tl L) : Z.length ≤ cnt Z + 1 := by
 rcases h with ⟨rfl, _, _⟩ | ⟨A, z, rfl, h⟩
 ·exact Nat.zero_le _
 ·have := h.ch.len
  rw [cnt_snoc, List.length_append, List.length_singleton]; omega
theorem Lv.endN (h : Lv F Z G D) : endN G = F + cnt Z := by
 unfold Hl.endN;rcases h.hz with ⟨rfl, _, _⟩ | ⟨A, z, rfl, hz⟩
 ·rw [if_pos ((lastS_nil h.gs).2 rfl), h.f0 rfl]; rfl
 ·rw [if_neg (fun q => by have := (lastS_nil h.gs).1 q; simp at this), lastS_map h.gs]
  unfold Sm.fin smOf;have := hz.zn;rw [cnt_snoc, ends_len];show z.n + z.L.length = _
  omega
theorem Lv.fewS (h : Lv F Z G D) : G.S.length < 1000 := by
 have h1 := h.hz.small h.f0;have h2 := h.hz.few;rw [h.gs, List.length_map];omega
theorem Lv.ok (h : Lv F Z G D) : Dk.OkL D.L := by
 rcases h.hz with ⟨_, _, q⟩ | ⟨A, z, _, q⟩
 ·exact q.ok
 ·exact q.ok
structure Gr (F : Nat) (Z : List Sg) (L : List Dk.Fl) (F' : Nat) (Z' : List Sg) (L' : List Dk.Fl) : Prop where
 lo : F ≤ F'
 hi : F' ≤ F + sureN Z L
 pre : ((flat Z).take (sureN Z L)).drop (F' - F) <+: (flat Z').take (sureN Z' L')
 num : F' + cnt Z' ≤ F + cnt Z + 1
 size : Dk.size L' ≤ Dk.size L + 98
theorem Gr.of {Z' : List Sg} {L' : List Dk.Fl} (h1 : flat Z <+: flat Z') (h2 : sureN Z L ≤ sureN Z' L') (h3 : cnt Z' ≤ cnt Z + 1) (h4 : Dk.size L' ≤ Dk.size L + 98) : Gr F Z L F Z' L' :=
 ⟨Nat.le_refl _, by omega, by
  rw [Nat.sub_self, List.drop_zero]
  exact take_pre h1 (by rw [cnt_flat]; exact sureN_le Z L) h2, by omega, h4⟩
def Ocm (Y : Nat → List Sg → List Dk.Fl → Prop) (full : Prop) (F : Nat) (Z : List Sg) (D : Dk.St) (r : Int × Dk.St × Lg) : Prop :=
 (∃ F' Z' s L', r.1 = 0 ∧ r.2.1 = { D with set := s, L := L' } ∧ (D.set = none → s = none) ∧ Lv F' Z' r.2.2 r.2.1 ∧ Gr F Z D.L F' Z' L' ∧ Y F' Z' L') ∨
 (full ∧ ∃ s L', r.1 = 50 ∧ r.2.1 = { D with set := s, L := L' } ∧ (D.set = none → s = none) ∧ Lv F Z r.2.2 r.2.1 ∧ Gr F Z D.L F Z L') ∨
 (D.set ≠ none ∧ r.1 = 51 ∧ ∃ ks D1 F1 Z1, r.2.1 = Dk.fall ks D1 ∧ D1.starts = D.starts ∧ D1.room = D.room ∧ HasS F1 Z1 [] D1.L ∧ (Z1 = [] → F1 = 0) ∧ D1.L.length = Z1.length ∧ Gr F Z D.L F1 Z1 D1.L)
theorem Gr.refl : Gr F Z L F Z L := Gr.of (List.prefix_refl _) (Nat.le_refl _) (by omega) (by omega)
theorem Lv.set {G : Lg} (h : Lv F Z G D) {s : Option (Nat × List Int)} {L' : List Dk.Fl} (hz : HasS F Z [] L') (hl : L'.length = D.L.length) : Lv F Z G { D with set := s, L := L' } := ⟨hz, h.f0, h.gs, h.up, h.st, h.ov, by rw [← h.len]; exact hl⟩
theorem sync_lv (h : Lv F Z G D) : Ocm (fun F' Z' L' => F' = F ∧ Z' = Z ∧ SafeZ Z L') False F Z D (sync G D) := by
 have e : sync G D = ((syncL G D).1, (syncL G D).2, G.hold (syncL G D).1) := if_neg (by rw [h.state]; simp);rw [e];rcases sync_last h.hz h.up h.gs with ⟨s, L', e1, h1, h2, h3, h4, h5⟩ | ⟨h1, ks, e1⟩
 ·rw [e1, hold_zero]
  refine .inl ⟨F, Z, s, L', rfl, rfl, h3, h.set h1 h4, ?_, rfl, rfl, h2⟩;exact Gr.of (List.prefix_refl _) (by rw [sureN_safe h1 h2]; exact sureN_le _ _) (by omega) (by omega)
 ·rw [e1]
  exact .inr (.inr ⟨h1, rfl, ks, D, F, Z, rfl, rfl, rfl, h.hz, h.f0, h.len, Gr.refl⟩)
theorem append_full {nmm s : List UInt8} (hu : D.up = true) (hb : Dk.named nmm = true) (hf : D.room < Dk.size D.L + s.length) : Dk.append nmm s D = (50, D) := by
 unfold Dk.append;rw [if_neg (by rw [hu]; simp), if_neg (by rw [hb]; simp), if_pos (.inr hf)]
theorem begin_lv (h : Lv F Z G D) (hne : ∀ z, Z.getLast? = some z → z.L ≠ []) {L0 : List M.Sp} (hm : Mays L0) (h1 : L0.length ≤ 1) (hs : F + cnt Z ≤ 890) :
  Ocm (fun F' Z' L' => F' = F ∧ Z' = Z ++ [⟨F + cnt Z, L0⟩]) (D.room < Dk.size D.L + 98) F Z D (begin6 G (dat L0) (ends L0) D) := by
 have hd98 : (dat L0).length ≤ 98 := by have := dat_most hm; omega
 unfold begin6;rw [h.endN];show Ocm _ _ F Z D ((Dk.next_ (syncL G D) (Dk.run [Dk.append (nm (F + cnt Z)) (dat L0)])).1, (Dk.next_ (syncL G D) (Dk.run [Dk.append (nm (F + cnt Z)) (dat L0)])).2, if (Dk.next_ (syncL G D) (Dk.run [Dk.append (nm (F + cnt Z)) (dat L0)])).1 = 0 then G.push ⟨F + cnt Z, ends L0⟩ else G.hold (Dk.next_ (syncL G D) (Dk.run [Dk.append (nm (F + cnt Z)) (dat L0)])).1)
 rcases sync_last h.hz h.up h.gs with ⟨s, L', e1, q1, q2, q3, q4, q5⟩ | ⟨q1, ks, e1⟩
 rotate_left
 ·rw [e1, Dk.next_no (by simp)]
  exact .inr (.inr ⟨q1, rfl, ks, D, F, Z, rfl, rfl, rfl, h.hz, h.f0, h.len, Gr.refl⟩)
 rw [e1, Dk.next_zero, Jcd];have hsn : sureN Z L' = cnt Z := sureN_safe q1 q2;have hg1 : Gr F Z D.L F Z L' := Gr.of (List.prefix_refl _) (by rw [hsn]; exact sureN_le _ _) (by omega) (by omega);by_cases hfull : D.room < Dk.size L' + (dat L0).length
 ·have ef := append_full (D := { D with set := s, L := L' }) (nmm := nm (F + cnt Z)) (s := dat L0) h.up (named_nm (by omega)) hfull
  rw [ef];simp only;rw [if_neg (by simp), h.hold50];exact .inr (.inl ⟨by omega, s, L', rfl, rfl, q3, h.set q1 q4, hg1⟩)
 have hlen : L'.length ≠ 1024 := by
  have := h.hz.few;have := h.len;omega
 have key : ∃ L2, HasS F (Z ++ [⟨F + cnt Z, L0⟩]) [] L2 ∧ (Z ++ [(⟨F + cnt Z, L0⟩ : Sg)] = [] → F = 0) ∧ (L2.length = L'.length + 1 ∧ Dk.size L2 = Dk.size L' + (dat L0).length) ∧ ((∃ s2, Dk.append (nm (F + cnt Z)) (dat L0) { D with set := s, L := L' } = (0, { D with set := s2, L := L2 }) ∧ (s = none → s2 = none)) ∨ (s ≠ none ∧ ∃ ks, Dk.append (nm (F + cnt Z)) (dat L0) { D with set := s, L := L' } = (51, Dk.fall ks { D with set := s, L := L2 }))) := by
  rcases q1 with ⟨rfl, _, q1⟩ | ⟨A, z, rfl, q1⟩
  ·obtain rfl := h.f0 rfl
   obtain ⟨L2, p1, p2, p3⟩ := begin_first (D := { D with set := s, L := L' }) q1 h.up hm (by omega) hlen (by show _ ≤ D.room; show Dk.size L' + _ ≤ _; omega);exact ⟨L2, .inr ⟨[], _, rfl, p1⟩, fun _ => rfl, p2, p3⟩
  ·have hz : z.n + z.L.length = F + cnt (A ++ [z]) := by have := q1.zn; rw [cnt_snoc]; omega
   obtain ⟨L2, p1, p2, p3⟩ := begin_last (D := { D with set := s, L := L' }) q1 (hne z (by simp)) q2 h.up hm (by omega) hlen (by show Dk.size L' + _ ≤ D.room; omega);rw [hz] at p1 p3;exact ⟨L2, .inr ⟨A ++ [z], _, rfl, p1⟩, fun q => by simp at q, p2, p3⟩
 obtain ⟨L2, p1, p2, ⟨p3, p4⟩, p5⟩ := key;have hfl : flat (Z ++ [(⟨F + cnt Z, L0⟩ : Sg)]) = flat Z ++ L0 := by rw [flat_app, flat_one]
 have hg2 : Gr F Z D.L F (Z ++ [⟨F + cnt Z, L0⟩]) L2 := Gr.of (by rw [hfl]; exact List.prefix_append _ _) (by rw [sureN_snoc]; have := sureN_le Z D.L; omega) (by rw [cnt_snoc]; show cnt Z + L0.length ≤ _; omega) (by omega);have hl2 : L2.length = (Z ++ [(⟨F + cnt Z, L0⟩ : Sg)]).length := by rw [List.length_append, List.length_singleton, ← h.len]; omega
 rcases p5 with ⟨s2, e2, r1⟩ | ⟨r1, ks, e2⟩
 ·rw [e2]
  refine .inl ⟨F, _, s2, L2, rfl, rfl, fun q => r1 (q3 q), ?_, hg2, rfl, rfl⟩;refine ⟨p1, p2, ?_, h.up, h.st, h.ov, hl2⟩;show G.S ++ [_] = _
  rw [h.gs, List.map_append];rfl
 ·rw [e2]
  exact .inr (.inr ⟨fun q => r1 (q3 q), rfl, ks, { D with set := s, L := L2 }, F, _, rfl, rfl, rfl, p1, p2, hl2, hg2⟩)
theorem append_lv (h : Lv F Z G D) {x : M.Sp} (hx : M.mayB x = true) (hf : x.fits) (hs : F + cnt Z ≤ 890) :
  Ocm (fun F' Z' L' => F' = F ∧ flat Z' = flat Z ++ [x]) (D.room < Dk.size D.L + 98) F Z D (append6 x G D) := by
 have hM : Mays [x] := fun y hy => by obtain rfl := List.mem_singleton.1 hy; exact ⟨hx, hf⟩
 have hd : dat [x] = fr x := by rw [dat_cons, dat_nil, List.append_nil]
 have he : ends [x] = [(fr x).length] := by have := ends_snoc [] x; rw [List.nil_append] at this; rw [this]; simp [dat, ends]
 have hm98 := fr_most hx;unfold append6;rw [if_neg (by rw [h.state]; simp), if_neg (by rw [hx]; simp)]
 have hbeg : (∀ z, Z.getLast? = some z → z.L ≠ []) → Ocm (fun F' Z' L' => F' = F ∧ flat Z' = flat Z ++ [x]) (D.room < Dk.size D.L + 98) F Z D (begin6 G (fr x) [(fr x).length] D) := fun hne => by
  have := begin_lv h hne hM (Nat.le_refl _) hs;rw [hd, he] at this;rcases this with ⟨F', Z', s, L', q1, q2, q3, q4, q5, q6, q7⟩ | q | q
  ·exact .inl ⟨F', Z', s, L', q1, q2, q3, q4, q5, q6, by rw [q7, flat_app, flat_one]⟩
  ·exact .inr (.inl q)
  ·exact .inr (.inr q)
 by_cases hz : Z = []
 ·rw [if_pos (.inl ((lastS_nil h.gs).2 hz))]
  exact hbeg (fun z q => by rw [hz] at q; cases q)
 obtain ⟨A, z, rfl⟩ : ∃ A z, Z = A ++ [z] := by
  rcases List.eq_nil_or_concat Z with q | ⟨A, z, q⟩
  ·exact absurd q hz
  ·exact ⟨A, z, by rw [q, List.concat_eq_append]⟩
 have hl : lastS G = smOf z := lastS_map h.gs;by_cases h16 : 16 ≤ (lastS G).es.length
 ·rw [if_pos (.inr h16)]
  refine hbeg (fun y q => ?_);obtain rfl : y = z := by simpa using q.symm
  rw [hl] at h16;unfold smOf at h16;simp only [ends_len] at h16;intro e;rw [e] at h16;simp at h16
 have hnS : ¬ (G.S = []) := fun q => hz ((lastS_nil h.gs).1 q)
 rw [if_neg (fun q => q.elim hnS h16)];rcases h.hz with ⟨q, _, _⟩ | ⟨A', z', q, hq⟩
 ·exact absurd q hz
 obtain ⟨rfl, rfl⟩ : A = A' ∧ z = z' := by
  have := List.append_inj' q rfl;exact ⟨this.1, by simpa using this.2⟩
 unfold lay;by_cases hfull : D.room < Dk.size D.L + (fr x).length
 ·rw [append_full h.up (named_nm (by rw [hl]; exact hq.n1)) hfull]
  simp only;rw [if_neg (by simp), h.hold50];exact .inr (.inl ⟨by omega, D.set, D.L, rfl, rfl, id, h, Gr.refl⟩)
 have hlen : D.L.length ≠ 1024 := by
  have := h.hz.few;have := h.len;omega
 have hzn : z.n + z.L.length = F + cnt (A ++ [z]) := by have := hq.zn; rw [cnt_snoc]; omega
 obtain ⟨L', p1, p2, ⟨p3, p4⟩, p5⟩ := lay_last hq h.up h.gs ⟨hx, hf⟩ (by omega) hlen (by omega);have hfl : flat (A ++ [(⟨z.n, z.L ++ [x]⟩ : Sg)]) = flat (A ++ [z]) ++ [x] := by rw [flat_app, flat_app, flat_one, flat_one, List.append_assoc]
 have hg : Gr F (A ++ [z]) D.L F (A ++ [⟨z.n, z.L ++ [x]⟩]) L' := Gr.of (by rw [hfl]; exact List.prefix_append _ _) (by
  rw [sureN_snoc, sureN_snoc];unfold sureZ;simp only;rw [p2];have := inn_app z.L [x] (Dk.get (nm z.n) D.L).safe
  omega) (by rw [cnt_snoc, cnt_snoc]; simp only [List.length_append, List.length_singleton]; omega) (by omega)
 have hl2 : L'.length = (A ++ [(⟨z.n, z.L ++ [x]⟩ : Sg)]).length := by rw [p3, h.len]; simp
 have hf0 : A ++ [(⟨z.n, z.L ++ [x]⟩ : Sg)] = [] → F = 0 := fun q => by simp at q
 rcases p5 with ⟨s2, e2, r1⟩ | ⟨r1, ks, e2⟩
 ·rw [e2]
  refine .inl ⟨F, _, s2, L', rfl, rfl, r1, ?_, hg, rfl, hfl⟩;exact ⟨.inr ⟨A, _, rfl, p1⟩, hf0, put1_segs h.gs x, h.up, h.st, h.ov, hl2⟩
 ·rw [e2]
  exact .inr (.inr ⟨r1, rfl, ks, { D with L := L' }, F, _, rfl, rfl, rfl, .inr ⟨A, _, rfl, p1⟩, hf0, hl2, hg⟩)
theorem rotate_lv (h : Lv F Z G D) (hs : F + cnt Z ≤ 890) :
  Ocm (fun F' Z' L' => F' = F ∧ flat Z' = flat Z) (D.room < Dk.size D.L + 98) F Z D (rotate6 G D) := by
 unfold rotate6;rw [if_neg (by rw [h.state]; simp)];by_cases hz : G.S = [] ∨ (lastS G).es = []
 ·rw [if_pos hz]
  exact .inl ⟨F, Z, D.set, D.L, rfl, rfl, id, h, Gr.refl, rfl, rfl⟩
 rw [if_neg hz]
 have := begin_lv h (L0 := []) (fun z q => by
  intro e;refine hz (.inr ?_);rcases List.eq_nil_or_concat Z with rfl | ⟨A, y, rfl⟩
  ·cases q
  ·rw [List.concat_eq_append] at q
   obtain rfl : y = z := by simpa using q
   have hg := h.gs;rw [List.concat_eq_append] at hg;rw [lastS_map hg];unfold smOf;rw [e]
   rfl) (fun y hy => by cases hy) (Nat.zero_le _) hs
 rcases this with ⟨F', Z', s, L', q1, q2, q3, q4, q5, q6, q7⟩ | q | q
 ·exact .inl ⟨F', Z', s, L', q1, q2, q3, q4, q5, q6, by rw [q7, flat_app, flat_one, List.append_nil]⟩
 ·exact .inr (.inl q)
 ·exact .inr (.inr q)
theorem HasS.drop {s : Sg} (hn : Z ≠ []) (h : HasS F (s :: Z) [] L) : Dk.has (nm s.n) L = true ∧ HasS (F + s.L.length) Z [] (Dk.del (nm s.n) L) ∧ sureN (s :: Z) L = s.L.length + sureN Z (Dk.del (nm s.n) L) ∧ (∀ tz, SafeZ (s :: Z) tz → SafeZ Z tz) ∧ Dk.OkL L := by
 rcases h with ⟨q, _, _⟩ | ⟨A, z, q, h⟩
 ·cases q
 cases A with
 | nil =>
  simp only [List.nil_append, List.cons.injEq] at q;exact absurd q.2 hn
 | cons t A =>
  simp only [List.cons_append, List.cons.injEq] at q;obtain ⟨rfl, rfl⟩ := q;have hs0 := List.mem_cons_self (a := s) (l := A);refine ⟨(h.whole s hs0).1, .inr ⟨A, z, rfl, h.drop⟩, ?_, fun tz hz y hy => hz y (by rw [← List.cons_append, List.getLast?_append] at *; simpa using hy), h.ok⟩;rw [← List.cons_append, sureN_snoc, sureN_snoc, cnt_cons];unfold sureZ;rw [(has_del_ne (L := L) (fun e => h.neA hs0 e.symm : nm z.n ≠ nm s.n)).2];omega
structure RtR (F : Nat) (Z : List Sg) (L : List Dk.Fl) (F' : Nat) (Z' : List Sg) (L' : List Dk.Fl) : Prop where
 lo : F ≤ F'
 num : F' + cnt Z' = F + cnt Z
 sure : F' + sureN Z' L' = F + sureN Z L
 fl : flat Z' = (flat Z).drop (F' - F)
 size : Dk.size L' ≤ Dk.size L
theorem RtR.refl : RtR F Z L F Z L := ⟨Nat.le_refl _, rfl, rfl, by simp, Nat.le_refl _⟩
theorem RtR.gr {F' : Nat} {Z' : List Sg} {L' : List Dk.Fl} (h : RtR F Z L F' Z' L') : Gr F Z L F' Z' L' := by
 have h1 := h.lo;have h2 := h.sure;have h3 := h.num;refine ⟨h1, by omega, ?_, by omega, by have := h.size; omega⟩;rw [h.fl, List.drop_take, show sureN Z L - (F' - F) = sureN Z' L' by omega];exact List.prefix_refl _
theorem retain_lv (n : Nat) (hn : 1 ≤ n) : ∀ (Z : List Sg) (F : Nat) (G : Lg) (D : Dk.St), Lv F Z G D →
  ((∃ F' Z' s L', (retainL n (Z.map smOf) G D).1 = 0 ∧ (retainL n (Z.map smOf) G D).2.1 = { D with set := s, L := L' } ∧ (D.set = none → s = none) ∧ Lv F' Z' (retainL n (Z.map smOf) G D).2.2 (retainL n (Z.map smOf) G D).2.1 ∧ RtR F Z D.L F' Z' L' ∧ Z'.length = min n Z.length ∧ (SafeZ Z D.L → SafeZ Z' L')) ∨
  (D.set ≠ none ∧ (retainL n (Z.map smOf) G D).1 = 51 ∧ ∃ ks D1 F1 Z1, (retainL n (Z.map smOf) G D).2.1 = Dk.fall ks D1 ∧ D1.starts = D.starts ∧ D1.room = D.room ∧ HasS F1 Z1 [] D1.L ∧ (Z1 = [] → F1 = 0) ∧ D1.L.length = Z1.length ∧ RtR F Z D.L F1 Z1 D1.L))
 | [], F, G, D, h => .inl ⟨F, [], D.set, D.L, rfl, rfl, id, h, RtR.refl, by simp, id⟩
 | s :: Z, F, G, D, h => by
  rw [List.map_cons, retainL_cons, List.length_map];by_cases hl : Z.length + 1 ≤ n
  ·rw [if_pos hl]
   exact .inl ⟨F, s :: Z, D.set, D.L, rfl, rfl, id, h, RtR.refl, by rw [List.length_cons]; omega, id⟩
  rw [if_neg hl];have hne : Z ≠ [] := fun e => by rw [e] at hl; simp at hl; omega
  obtain ⟨d1, d2, d3, d4, d5⟩ := h.hz.drop hne;have hsn : nm (smOf s).n = nm s.n := rfl;rw [hsn];rcases Dk.remove_two (nm := nm s.n) h.up d1 with ⟨st, e, hs⟩ | ⟨h1, ks, e⟩
  ·rw [e]
   simp only [if_true]
   have hdl : (Dk.del (nm s.n) D.L).length = Z.length := by
    have h1 := Dk.len_del (nm := nm s.n) d5.ne;rw [d1, if_pos rfl, h.len, List.length_cons] at h1;omega
   have hsz : Dk.size (Dk.del (nm s.n) D.L) ≤ Dk.size D.L := by have := Dk.size_del (nm := nm s.n) d5.ne; omega
   have hget : ∀ y, Z.getLast? = some y → Dk.get (nm y.n) (Dk.del (nm s.n) D.L) = Dk.get (nm y.n) D.L := fun y hy => by
    rcases h.hz with ⟨q, _, _⟩ | ⟨A, z, q, hq⟩
    ·cases q
    cases A with
    | nil =>
     simp only [List.nil_append, List.cons.injEq] at q;exact absurd q.2 hne
    | cons t A =>
     simp only [List.cons_append, List.cons.injEq] at q;obtain ⟨rfl, rfl⟩ := q;obtain rfl : y = z := by simpa using hy.symm
     exact (has_del_ne (L := D.L) (fun e => hq.neA (List.mem_cons_self ..) e.symm : nm y.n ≠ nm s.n)).2
   have h' : Lv (F + s.L.length) Z G.shift { D with set := st, L := Dk.del (nm s.n) D.L } := ⟨d2, fun q => absurd q hne, by
    show G.S.tail = _
    rw [h.gs]; rfl, h.up, h.st, h.ov, hdl⟩
   have hR : ∀ {F' : Nat} {Z' : List Sg} {L' : List Dk.Fl}, RtR (F + s.L.length) Z (Dk.del (nm s.n) D.L) F' Z' L' → RtR F (s :: Z) D.L F' Z' L' := fun {F' Z' L'} r => by
    have r1 := r.lo;have r2 := r.num;have r3 := r.sure;have r5 := r.size;refine ⟨by omega, by rw [cnt_cons]; omega, by rw [d3]; omega, ?_, by omega⟩;rw [r.fl, flat_cons, show F' - F = s.L.length + (F' - (F + s.L.length)) by omega, ← List.drop_drop, List.drop_left]
   rcases retain_lv n hn Z _ _ _ h' with ⟨F', Z', s2, L', q1, q2, q3, q4, q5, q6, q7⟩ | ⟨q1, q2, ks, D1, F1, Z1, q3, q4, q5, q6, q7, q8, q9⟩
   ·refine .inl ⟨F', Z', s2, L', q1, q2, fun q => q3 (hs q), q4, hR q5, by rw [q6, List.length_cons]; omega, fun hsf => q7 (fun y hy => ?_)⟩
    rw [hget y hy];refine hsf y ?_;rw [List.getLast?_cons, hy];rfl
   ·exact .inr ⟨fun q => q1 (hs q), q2, ks, D1, F1, Z1, q3, q4, q5, q6, q7, q8, hR q9⟩
  ·rw [e]
   rw [if_neg (by simp)];exact .inr ⟨h1, rfl, ks, D, F, s :: Z, rfl, rfl, rfl, h.hz, h.f0, h.len, RtR.refl⟩
end
end Hl
end
section
open Go Go.RowKit
namespace Hl
section
variable {F : Nat} {A Z : List Sg} {z : Sg} {tl : List UInt8} {L : List Dk.Fl} {D : Dk.St} {G : Lg}
theorem sureS_whole (D : Dk.St) : ∀ (A : List Sg) (z : Sg) (a : Nat), (∀ s ∈ A, Dk.get (nm s.n) D.L = ⟨nm s.n, dat s.L, (dat s.L).length⟩) → sureS D ((A ++ [z]).map smOf) a = z.n + sureZ z D.L
 | [], z, a, _ => by
  show sureS D [smOf z] a = _
  rw [Jee];show (if cntE (ends z.L) (Dk.get (nm z.n) D.L).safe < _ then z.n + inn z.L (Dk.get (nm z.n) D.L).safe else z.n + inn z.L (Dk.get (nm z.n) D.L).safe) = _
  rw [ite_self];rfl
 | s :: A, z, a, h => by
  have h1 := h s (List.mem_cons_self ..);show sureS D (smOf s :: ((A ++ [z]).map smOf)) a = _
  rw [Jee]
  have hc : cntE (smOf s).es (Dk.get (nm (smOf s).n) D.L).safe = (smOf s).es.length := by
   show inn s.L (Dk.get (nm s.n) D.L).safe = (ends s.L).length
   rw [h1, ends_len];exact inn_all (Nat.le_refl _)
  rw [hc, if_neg (Nat.lt_irrefl _)];exact sureS_whole D A z _ (fun t ht => h t (List.mem_cons_of_mem _ ht))
theorem Lv.sure (h : Lv F Z G D) : sureL D G = F + sureN Z D.L := by
 unfold sureL;rw [if_pos h.state, h.gs];rcases h.hz with ⟨rfl, _, _⟩ | ⟨A, z, rfl, hz⟩
 ·rw [h.f0 rfl]; rfl
 ·rw [sureS_whole D A z 0 (fun s hs => (hz.whole s hs).2), sureN_snoc]
  have := hz.zn;omega
theorem Lv.first (h : Lv F Z G D) : firstL D G = F := by
 unfold firstL;rw [if_pos h.state, h.gs];rcases h.hz with ⟨rfl, _, _⟩ | ⟨A, z, rfl, hz⟩
 ·rw [h.f0 rfl]; rfl
 ·cases A with
  | nil =>
   have := hz.zn;show z.n = F
   simpa [cnt, flat] using this
  | cons s A => exact hz.ch.1
theorem Lv.small (h : Lv F Z G D) : F + cnt Z ≤ 900 := h.hz.small h.f0
theorem Lv.rd (h : Lv F Z G D) : RdOk D Z := fun s hs => by
 have hl := h.hz.load h.up;obtain ⟨i, hi, rfl⟩ := List.mem_iff_getElem.1 hs;have hr := hl.read i hi;have hsm := hl.small _ hs;refine ⟨_, hr, hl.mays _ hs, ?_, by omega⟩;split <;> exact tail_nil
def Cn : Nat → List Sg → Prop
 | _, [] => True
 | n, s :: r => s.n = n ∧ Cn (n + s.L.length) r
theorem cn_of (z : Sg) : ∀ (A : List Sg) (F : Nat), ChA F A → z.n = F + cnt A → Cn F (A ++ [z])
 | [], F, _, h => ⟨by simpa [cnt, flat] using h, trivial⟩
 | s :: A, F, ⟨q1, q2, q3⟩, h => ⟨q1, cn_of z A _ q3 (by rw [cnt_cons] at h; omega)⟩
theorem HasS.cn (h : HasS F Z tl L) : Cn F Z := by
 rcases h with ⟨rfl, _, _⟩ | ⟨A, z, rfl, h⟩
 ·exact trivial
 ·exact cn_of z A F h.ch h.zn
theorem readAll_eq (a c : Nat) : ∀ (Z : List Sg) (F : Nat), Cn F Z → readAll a c Z = ((flat Z).take (c - F)).drop (a - F)
 | [], F, _ => by simp [readAll, flat]
 | s :: Z, F, ⟨q1, q2⟩ => by
  have ih := readAll_eq a c Z _ q2;have e : readAll a c (s :: Z) = part6 s.n a c s.L ++ readAll a c Z := rfl;rw [e, ih, flat_cons, List.take_append, List.drop_append];unfold part6;rw [q1];congr 1
  by_cases hc : s.L.length ≤ c - F
  ·rw [List.length_take, Nat.min_eq_right hc, show c - F - s.L.length = c - (F + s.L.length) by omega, show a - F - s.L.length = a - (F + s.L.length) by omega]
  ·rw [show c - F - s.L.length = 0 by omega, show c - (F + s.L.length) = 0 by omega]
   simp
def KnwE (K : List M.Sp) (F : Nat) (Z : List Sg) (L : List Dk.Fl) : Prop := F ≤ K.length ∧ K.drop F = (flat Z).take (sureN Z L)
def Knw (K : List M.Sp) (F : Nat) (Z : List Sg) (L : List Dk.Fl) : Prop := F ≤ K.length ∧ K.drop F <+: (flat Z).take (sureN Z L)
theorem KnwE.len {K : List M.Sp} (h : KnwE K F Z L) : K.length = F + sureN Z L := by
 have h1 := congrArg List.length h.2;rw [List.length_drop, List.length_take, Nat.min_eq_left (by rw [cnt_flat]; exact sureN_le Z L)] at h1;have := h.1;omega
theorem Gr.knw {K : List M.Sp} {F' : Nat} {Z' : List Sg} {L' : List Dk.Fl} (g : Gr F Z L F' Z' L') (h : KnwE K F Z L) : Knw K F' Z' L' := by
 have h1 := h.len;have h2 := g.lo;have h3 := g.hi;refine ⟨by omega, ?_⟩;have := g.pre;rw [← h.2, List.drop_drop, show F + (F' - F) = F' by omega] at this;exact this
theorem Knw.to {K : List M.Sp} {Z' : List Sg} {L' : List Dk.Fl} (h : Knw K F Z L) (hp : (flat Z).take (sureN Z L) <+: flat Z') (hs : sureN Z' L' = cnt Z') : Knw K F Z' L' :=
 ⟨h.1, by rw [hs, List.take_of_length_le (by rw [cnt_flat]; exact Nat.le_refl _)]; exact h.2.trans hp⟩
end
end Hl
end
end Go.Proofs.YtmammmjmipgmoaaGreatDoor
