import Derived.Test.YtmammmjmipgmoaaGreatDoorZKd
import Derived.Test.YtmammmjmipgmoaaGreatDoorZHz
import Derived.Test.YtmammmjmipgmoaaGreatDoorZQh
set_option linter.unusedVariables false
set_option maxRecDepth 100000
set_option maxHeartbeats 16000000
namespace Go.Proofs.YtmammmjmipgmoaaGreatDoor
section
open Go Go.RowKit Go.Maps
namespace Hl
theorem insN_cons (n a : Nat) (l : List Nat) : insN n (a :: l) = if a < n then a :: insN n l else n :: a :: l := by
 unfold insN;by_cases h : a < n
 ·rw [if_pos h, List.takeWhile_cons_of_pos (by simpa using h), List.dropWhile_cons_of_pos (by simpa using h), List.cons_append]
 ·rw [if_neg h, List.takeWhile_cons_of_neg (by simpa using h), List.dropWhile_cons_of_neg (by simpa using h)]
  rfl
theorem insN_perm (n : Nat) (l : List Nat) : (insN n l).Perm (n :: l) := by
 unfold insN;refine List.perm_middle.trans ?_;rw [List.takeWhile_append_dropWhile]
theorem insN_up (n : Nat) : ∀ {l : List Nat}, l.Pairwise (· ≤ ·) → (insN n l).Pairwise (· ≤ ·)
 | [], _ => by simp [insN]
 | a :: l, h => by
  have h0 := List.pairwise_cons.1 h;rw [insN_cons];by_cases q : a < n
  ·rw [if_pos q]
   refine List.pairwise_cons.2 ⟨fun b hb => ?_, insN_up n h0.2⟩;rcases List.mem_cons.1 ((insN_perm n l).mem_iff.1 hb) with rfl | hb
   ·omega
   ·exact h0.1 b hb
  ·rw [if_neg q]
   refine List.pairwise_cons.2 ⟨fun b hb => ?_, h⟩;rcases List.mem_cons.1 hb with rfl | hb
   ·omega
   ·have := h0.1 b hb; omega
theorem foldF_up : ∀ (names : List (List UInt8)) (l : List Nat), l.Pairwise (· ≤ ·) → (names.foldl insF l).Pairwise (· ≤ ·)
 | [], l, h => h
 | x :: r, l, h => by
  rw [List.foldl_cons];refine foldF_up r _ ?_;unfold insF;split
  ·exact insN_up _ h
  ·exact h
theorem foldF_perm : ∀ (names : List (List UInt8)) (l : List Nat), (names.foldl insF l).Perm (l ++ (names.filterMap fnum).map Int.toNat)
 | [], l => by simp
 | x :: r, l => by
  rw [List.foldl_cons];refine (foldF_perm r _).trans ?_;unfold insF;cases hx : fnum x with
  | none => rw [List.filterMap_cons_none hx]
  | some v =>
   rw [List.filterMap_cons_some hx, List.map_cons];refine ((insN_perm v.toNat l).append_right _).trans ?_;exact List.perm_middle.symm
theorem numsN_eq {names : List (List UInt8)} {ns : List Nat} (h : Jbk (Jar [108] 0 999999999 names) = ns.map fun n : Nat => (n : Int)) : numsN names = ns := by
 have hp : (numsN names).Perm ns := by
  have h1 := foldF_perm names [];rw [List.nil_append] at h1;refine h1.trans ?_;have h2 : (Jbk (Jar [108] 0 999999999 names)).Perm (names.filterMap fnum) := List.mergeSort_perm _ _;have h3 := (h2.map Int.toNat).symm;rw [h, List.map_map] at h3;refine h3.trans ?_;rw [show (Int.toNat ∘ fun n : Nat => (n : Int)) = id from funext fun n => Int.toNat_natCast n, List.map_id]
 refine List.Perm.eq_of_pairwise (le := fun a b => a ≤ b) (fun a b _ _ h1 h2 => by omega) (foldF_up names [] .nil) ?_ hp
 have h4 : (ns.map fun n : Nat => (n : Int)).Pairwise (fun a b => a ≤ b) := by
  rw [← h];have := List.pairwise_mergeSort (le := fun a b : Int => decide (a ≤ b)) (fun a b c h1 h2 => by simp only [decide_eq_true_eq] at *; omega) (fun a b => by simp only [Bool.or_eq_true, decide_eq_true_eq]; omega) (Jar [108] 0 999999999 names);exact this.imp fun {a b} h => by simpa using h
 exact (List.pairwise_map.1 h4).imp fun {a b} h => by omega
theorem inn_ge : ∀ (X : List M.Sp) (c j : Nat), j ≤ X.length → (dat (X.take j)).length ≤ c → j ≤ inn X c
 | [], c, j, hj, _ => by have h0 : j = 0 := by simpa using hj
                         omega
 | x :: X, c, 0, _, _ => Nat.zero_le _
 | x :: X, c, j + 1, hj, h => by
  rw [List.take_succ_cons, dat_cons, List.length_append] at h;rw [inn_cons, if_pos (by omega)];have := inn_ge X (c - (fr x).length) j (by simpa using hj) (by omega);omega
section
variable {F : Nat} {A Z : List Sg} {z : Sg} {tl : List UInt8} {L : List Dk.Fl} {D : Dk.St} {G : Lg}
theorem HasS.ok (h : HasS F Z tl L) : Dk.OkL L := by
 rcases h with ⟨_, _, q⟩ | ⟨A, z, _, q⟩
 ·exact q.ok
 ·exact q.ok
theorem HasS.few1 (h : HasS F Z tl L) : Z.length ≤ 1000 := by
 rcases h with ⟨rfl, _, _⟩ | ⟨A, z, rfl, h⟩
 ·exact Nat.zero_le _
 ·have h1 := h.ch.len
  have h2 := h.zn;have h3 := h.small;simp only [List.length_append, List.length_cons, List.length_nil];omega
theorem HasS.nms (h : HasS F Z tl L) : NmsOk (Dk.names L) := fun x hx => by
 obtain ⟨f, hf, rfl⟩ := List.mem_map.1 hx;rcases h with ⟨_, _, h⟩ | ⟨A, z, rfl, h⟩
 ·exact .inl (h.names f hf)
 ·rcases h.names f hf with q | q | ⟨s, hs, q⟩
  ·exact .inl q
  ·exact .inr ⟨z.n, h.n1, q⟩
  ·exact .inr ⟨s.n, (h.nA hs).2, q⟩
theorem HasS.numsN (h : HasS F Z tl L) : Hl.numsN (Dk.names L) = Z.map (·.n) := by
 refine numsN_eq ?_;rw [List.map_map];rcases h with ⟨rfl, _, h⟩ | ⟨A, z, rfl, h⟩
 ·exact h.nums
 ·exact h.nums
theorem wh_seg {tl : List UInt8} (ht : Tail tl) {X : List M.Sp} (hm : Mays X) : M.wh (dat X ++ tl) 0 = (X.map M.enc, (dat X).length) := by
 have := wh_rec ht X [] hm;simpa using this
theorem HasZ.seg (h : HasZ F A z tl L) {i : Nat} (hi : i < (A ++ [z]).length) : (Dk.get (nm ((A ++ [z])[i]).n) L).dat = dat ((A ++ [z])[i]).L ++ (if i + 1 = (A ++ [z]).length then tl else []) := by
 by_cases hl : i + 1 = (A ++ [z]).length
 ·have hi' : i = A.length := by simp at hl; omega
  subst hi';rw [if_pos hl, List.getElem_concat_length rfl, h.last.2]
 ·have hi' : i < A.length := by simp at hl hi; omega
  rw [if_neg hl, List.getElem_append_left hi', (h.whole A[i] (List.getElem_mem hi')).2, List.append_nil]
theorem HasZ.mays_at (h : HasZ F A z tl L) {i : Nat} (hi : i < (A ++ [z]).length) : Mays ((A ++ [z])[i]).L ∧ ((A ++ [z])[i]).n + ((A ++ [z])[i]).L.length ≤ 900 ∧ (i + 1 < (A ++ [z]).length → 0 < ((A ++ [z])[i]).L.length) := by
 by_cases hl : i + 1 = (A ++ [z]).length
 ·have hi' : i = A.length := by simp at hl; omega
  subst hi';rw [List.getElem_concat_length rfl];exact ⟨h.mayz, h.small, fun q => by omega⟩
 ·have hi' : i < A.length := by simp at hl hi; omega
  rw [List.getElem_append_left hi'];have hs := List.getElem_mem hi';have h1 := h.ch.lt _ hs;have h2 := h.zn;have h3 := h.small;exact ⟨h.mays _ hs, by omega, fun _ => h1.2.2⟩
theorem HasS.sg (h : HasS F Z tl D.L) : SgOk D Z := by
 rcases h with ⟨rfl, _, _⟩ | ⟨A, z, rfl, h⟩
 ·intro i hi; simp at hi
 ·intro i hi
  have h1 := h.seg hi;obtain ⟨h2, h3, h4⟩ := h.mays_at hi
  have ht : Tail (if i + 1 = (A ++ [z]).length then tl else []) := by
   split
   ·exact h.tail
   ·exact tail_nil
  have h5 := wh_seg ht h2;have h6 := dat_most h2;have h7 := ht.2;rw [← h1] at h5;rw [h5];have h8 := congrArg List.length h1;rw [List.length_append] at h8;refine ⟨rfl, by simp only; omega, by omega, h2, h3, fun hi2 => ⟨?_, h4 hi2, chain_of z A F h.ch h.zn i hi2⟩⟩;rw [if_neg (by omega)] at h8;simp only;simpa using h8.symm
theorem HasS.hM (h : HasS F Z tl D.L) (hu : D.up = true) : ∀ z, Z.getLast? = some z → (Dk.clear nD D).1 = 0 → z.n ≤ 1000 ∧ (Dk.get (nm z.n) (Dk.clear nD D).2.L).dat.length ≤ 1000000 ∧ (M.wh (Dk.get (nm z.n) (Dk.clear nD D).2.L).dat 0).2 ≤ (Dk.get (nm z.n) (Dk.clear nD D).2.L).dat.length := fun y hy h0 => by
 obtain ⟨s, e, _⟩ := clear_ok hu h0;rw [e];rcases h with ⟨rfl, _, _⟩ | ⟨A, z, rfl, h⟩
 ·cases hy
 obtain rfl : z = y := by simpa using hy
 have h1 := h.deld.last.2;show z.n ≤ 1000 ∧ (Dk.get (nm z.n) (Dk.del nD D.L)).dat.length ≤ 1000000 ∧ (M.wh (Dk.get (nm z.n) (Dk.del nD D.L)).dat 0).2 ≤ (Dk.get (nm z.n) (Dk.del nD D.L)).dat.length
 rw [h1, wh_seg h.tail h.mayz, List.length_append];have h2 := dat_most h.mayz;have h3 := h.tail.2;have h4 := h.small;have h5 := h.n1;exact ⟨by omega, by omega, by simp only; omega⟩
theorem HasS.opnD (h : HasS F Z tl D.L) : (if D.up = false then (51, D) else Hl.opnD Z D) = openR Z tl D := by
 unfold openR;by_cases hu : D.up = false
 ·rw [if_pos hu, if_pos hu]
 rw [if_neg hu, if_neg hu];have hu' : D.up = true := by simpa using hu
 unfold Hl.opnD;show _ = Dk.next_ (Dk.clear nD D) (Dk.run [mendT _ _])
 rcases clear_two hu' with ⟨s, e, _⟩ | ⟨_, ks, e⟩
 rotate_left
 ·rw [e, Dk.next_no (by simp), Dk.next_no (by simp)]
 rw [e, Dk.next_zero, Dk.next_zero, Jcd];rcases h with ⟨rfl, rfl, h⟩ | ⟨A, z, rfl, h⟩
 ·rfl
 have hg : (A ++ [z]).getLast? = some z := by simp
 rw [hg];have hl := h.deld.last;show mendN z.n { D with set := s, L := Dk.del nD D.L } = _
 unfold mendN;show (if (M.wh (Dk.get (nm z.n) (Dk.del nD D.L)).dat 0).2 = (Dk.get (nm z.n) (Dk.del nD D.L)).dat.length then _ else _) = _
 rw [hl.2, wh_seg h.tail h.mayz, List.length_append];by_cases ht : tl = []
 ·rw [ht, if_pos (by simp)]
  first | done | rfl
 ·rw [if_neg (by have := List.length_pos_iff.2 ht; simp only; omega), show decide (tl ≠ []) = true from by simpa using ht]
  have hrd : Dk.read (nm z.n) { D with set := s, L := Dk.del nD D.L } = (0, dat z.L ++ tl) := by
   unfold Dk.read;rw [if_neg (by rw [hu']; simp), if_neg (by rw [hl.1]; simp), hl.2]
  unfold mendT mendD;rw [if_pos rfl, lastS_of, smOf_size, show (smOf z).n = z.n from rfl, hrd, if_neg (by simp)]
theorem Lv.rcsf (h : Lv F Z G D) : RcSf D G := fun s hs => by
 rw [h.gs] at hs;obtain ⟨y, hy, rfl⟩ := List.mem_map.1 hs;have hsf := Dk.get_safe h.ok (nm y.n);refine ⟨?_, hsf⟩;show (M.wh ((Dk.get (nm y.n) D.L).dat.take (Dk.get (nm y.n) D.L).safe) 0).1.length = inn y.L (Dk.get (nm y.n) D.L).safe
 have key : (Dk.get (nm y.n) D.L).dat = dat y.L ∧ Mays y.L := by
  rcases h.hz with ⟨rfl, _, _⟩ | ⟨A, z, rfl, hz⟩
  ·cases hy
  ·rcases List.mem_append.1 hy with q | q
   ·exact ⟨by rw [(hz.whole y q).2], hz.mays y q⟩
   ·obtain rfl := List.mem_singleton.1 q
    exact ⟨by rw [hz.last.2, List.append_nil], hz.mayz⟩
 obtain ⟨h1, h2⟩ := key;rw [h1] at hsf ⊢;generalize (Dk.get (nm y.n) D.L).safe = c at *;obtain ⟨j, tl, q1, q2, q3, q4, q5⟩ := cut_rec y.L h2 c;rw [q2, wh_seg q3 (h2.take j)];have h3 := q4 _ (inn_le y.L c) (inn_take y.L c)
 have h4 : j ≤ inn y.L c := inn_ge y.L c j q1 (by
  have := congrArg List.length q2;rw [List.length_take, List.length_append] at this
  omega)
 simp only [List.length_map, List.length_take];omega
theorem Lv.cnd (h : Lv F Z G D) : Cn (firstL D G) Z ∧ sureL D G ≤ firstL D G + cnt Z ∧ firstL D G + cnt Z ≤ 900 := by
 rw [h.first, h.sure];have h1 := sureN_le Z D.L;have h2 := h.small;exact ⟨h.hz.cn, by omega, h2⟩
end
end Hl
end
section
open Go Go.RowKit Go.Maps
namespace Hl
section
variable {F : Nat} {A Z : List Sg} {z : Sg} {tl : List UInt8} {L : List Dk.Fl} {D : Dk.St} {G : Lg} {i : Nat}
structure Dkd (F : Nat) (Z : List Sg) (tl : List UInt8) (D : Dk.St) : Prop where
 hz : HasS F Z tl D.L
 f0 : Z = [] → F = 0
 len : D.L.length = Z.length + (if Dk.has nD D.L = true then 1 else 0)
theorem Dkd.fall (h : Dkd F Z tl D) (ks : List Int) : ∃ Z' tl', Dkd F Z' tl' (Dk.fall ks D) ∧ cnt Z' ≤ cnt Z := by
 obtain ⟨Z', tl', h1, h2, h3, h4, h5, h6⟩ := h.hz.fell ks;refine ⟨Z', tl', ⟨h1, fun q => h.f0 (h6 q), ?_⟩, ?_⟩
 ·show (Dk.cut ks D.L).length = Z'.length + (if Dk.has nD (Dk.cut ks D.L) = true then 1 else 0)
  rw [Dk.cut_len, Dk.has_cut, h3];exact h.len
 ·have := h4.length_le
  rw [cnt_flat, cnt_flat] at this;exact this
theorem Fell.dkd (h : Fell F Z tl D) : Dkd F Z tl D := ⟨h.hz, h.f0, by rw [nod_of h.hz h.len, if_neg (by simp)]; exact h.len⟩
theorem Lv.dkd (h : Lv F Z G D) : Dkd F Z [] D := ⟨h.hz, h.f0, by rw [nod_of h.hz h.len, if_neg (by simp)]; exact h.len⟩
def OpnO (F : Nat) (Z : List Sg) (D : Dk.St) (r : Int × Dk.St) : Prop :=
 r.2.room = D.room ∧ r.2.starts = D.starts ∧ ((r.1 = 0 ∧ Lv F Z ⟨D.starts, false, Z.map smOf⟩ r.2) ∨ (r.1 ≠ 0 ∧ ∃ Z' tl', Dkd F Z' tl' r.2 ∧ cnt Z' ≤ cnt Z))
theorem open_any (h : Dkd F Z tl D) (hu : D.up = true) : OpnO F Z D (openR Z tl D) := by
 have hok := h.hz.ok;have hdel := Dk.len_del (nm := nD) (L := D.L) hok.ne;have hdl : (Dk.del nD D.L).length = Z.length := by have := h.len; omega
 have hnd : Dk.has nD (Dk.del nD D.L) = false := by rw [Dk.has_del]; simp
 unfold openR;rw [if_neg (by rw [hu]; simp)];show OpnO F Z D (Dk.next_ (Dk.clear nD D) (Dk.run [mendT _ _]))
 rcases clear_two (D := D) hu with ⟨s, e, q⟩ | ⟨q, ks, e⟩
 rotate_left
 ·rw [e, Dk.next_no (by simp)]
  obtain ⟨Z', tl', h1, h2⟩ := h.fall ks;exact ⟨rfl, rfl, .inr ⟨by simp, Z', tl', h1, h2⟩⟩
 rw [e, Dk.next_zero, Jcd];have hz1 := h.hz.deld;have f0 := h.f0;clear e q h hdel hok;by_cases ht : tl = []
 ·rw [show decide (tl ≠ []) = false from by simpa using ht]
  rw [ht] at hz1;exact ⟨rfl, rfl, .inl ⟨rfl, hz1, f0, rfl, hu, rfl, rfl, hdl⟩⟩
 rw [show decide (tl ≠ []) = true from by simpa using ht];rcases hz1 with ⟨_, q, _⟩ | ⟨A, z, rfl, hz⟩
 ·exact absurd q ht
 have hrd : Dk.read (nm z.n) { D with set := s, L := Dk.del nD D.L } = (0, dat z.L ++ tl) := by
  unfold Dk.read;rw [if_neg (by rw [hu]; simp), if_neg (by rw [hz.last.1]; simp), hz.last.2]
 have hm : mendT ⟨D.starts, false, (A ++ [z]).map smOf⟩ true { D with set := s, L := Dk.del nD D.L } = Dk.lay nD (nm z.n) (dat z.L) { D with set := s, L := Dk.del nD D.L } := by
  unfold mendT mendD;rw [if_pos rfl, lastS_of, smOf_size, show (smOf z).n = z.n from rfl, hrd, if_neg (by simp)];show Dk.lay nD (nm z.n) ((dat z.L ++ tl).take (dat z.L).length) _ = _
  rw [List.take_left]
 rw [hm, Dk.lay_steps];clear hm hrd;generalize Dk.del nD D.L = L0 at *;have hf0 : A ++ [z] = [] → F = 0 := f0
 have hlen : L0.length ≠ 1024 := by
  have h1 := hz.small;have h2 := hz.zn;have h3 := hz.ch.len;rw [hdl, List.length_append, List.length_singleton];omega
 by_cases hr : D.room < Dk.size L0 + (dat z.L).length
 ·have ef := append_full (D := { D with set := s, L := L0 }) (nmm := nD) (s := dat z.L) hu (by decide) hr
  rw [ef, if_neg (by simp)];exact ⟨rfl, rfl, .inr ⟨by simp, A ++ [z], tl, ⟨.inr ⟨A, z, rfl, hz⟩, hf0, by show L0.length = _ + (if Dk.has nD L0 = true then 1 else 0); rw [hnd, if_neg (by simp)]; exact hdl⟩, Nat.le_refl _⟩⟩
 have h1 := hz.putd (s := dat z.L) (k := 0) (Nat.zero_le _);have g1 := get_put_eq (f := ⟨nD, dat z.L, 0⟩) h1.ok;simp only at g1;have l1 := put_fresh (f := ⟨nD, dat z.L, 0⟩) hz.ok hnd;have e1 := Dk.append_two (D := { D with set := s, L := L0 }) (nm := nD) (s := dat z.L) hu (by decide) hlen (by show Dk.size L0 + _ ≤ D.room; omega);have hgn : Dk.get nD L0 = Dk.fl0 := Dk.get_none hnd;simp only [hgn, show Dk.fl0.dat ++ dat z.L = dat z.L from rfl, show Dk.fl0.safe = 0 from rfl] at e1;obtain ⟨L1, hL1⟩ : ∃ x, x = Dk.put ⟨nD, dat z.L, 0⟩ L0 := ⟨_, rfl⟩
 rw [← hL1] at h1 g1 l1 e1;clear hL1
 have mk : ∀ {L2 : List Dk.Fl} {tl2 : List UInt8} (s2 : Option (Nat × List Int)), HasZ F A z tl2 L2 → Dk.has nD L2 = true → L2.length = (A ++ [z]).length + 1 → Dkd F (A ++ [z]) tl2 { D with set := s2, L := L2 } := fun {L2 tl2} s2 a1 a2 a3 =>
  ⟨.inr ⟨A, z, rfl, a1⟩, hf0, by show L2.length = _ + (if Dk.has nD L2 = true then 1 else 0); rw [a2, if_pos rfl]; exact a3⟩
 have fin : ∀ {D2 : Dk.St} {tl2 : List UInt8} (ks : List Int), Dkd F (A ++ [z]) tl2 D2 → D2.room = D.room → D2.starts = D.starts → OpnO F (A ++ [z]) D (51, Dk.fall ks D2) := fun {D2 tl2} ks a1 a2 a3 => by
  obtain ⟨Z', tl', q1, q2⟩ := a1.fall ks;exact ⟨a2, a3, .inr ⟨by simp, Z', tl', q1, q2⟩⟩
 have hl1 : L1.length = (A ++ [z]).length + 1 := by rw [l1.1, hdl]
 rcases e1 with ⟨s1, e1, q1⟩ | ⟨q1, ks, e1⟩
 rotate_left
 ·rw [e1, if_neg (by simp)]
  exact fin ks (D2 := { D with set := s, L := L1 }) (mk s h1 g1.1 hl1) rfl rfl
 rw [e1];simp only [if_true];have h2 := h1.putd (s := dat z.L) (k := (dat z.L).length) (Nat.le_refl _);have g2 := get_put_eq (f := ⟨nD, dat z.L, (dat z.L).length⟩) h2.ok;simp only at g2;have l2 := put_old (f := ⟨nD, dat z.L, (dat z.L).length⟩) h1.ok g1.1;have e2 := Dk.sync_two (D := { D with set := s1, L := L1 }) (nm := nD) hu g1.1;simp only [g1.2] at e2;obtain ⟨L2, hL2⟩ : ∃ x, x = Dk.put ⟨nD, dat z.L, (dat z.L).length⟩ L1 := ⟨_, rfl⟩
 rw [← hL2] at h2 g2 l2 e2;clear hL2;have hl2 : L2.length = (A ++ [z]).length + 1 := by rw [l2.1, hl1]
 rcases e2 with ⟨s2, e2, q2⟩ | ⟨q2, ks, e2⟩
 rotate_left
 ·rw [e2, if_neg (by simp)]
  exact fin ks (D2 := { D with set := s1, L := L1 }) (mk s1 h1 g1.1 hl1) rfl rfl
 rw [e2];simp only [if_true];have e3 := Dk.rename_two (D := { D with set := s2, L := L2 }) (a := nD) (b := nm z.n) hu g2.1 (named_nm hz.n1) (nm_nD hz.n1).symm;simp only [g2.2] at e3;have h3 := h2.renamed;have hdl2 := Dk.len_del (nm := nD) h2.ok.ne;rw [g2.1, if_pos rfl] at hdl2;have l3 := put_old (f := ⟨nm z.n, dat z.L, (dat z.L).length⟩) h2.deld.ok h2.deld.last.1;rcases e3 with ⟨s3, e3, q3⟩ | ⟨q3, ks, e3⟩
 ·rw [e3]
  refine ⟨rfl, rfl, .inl ⟨rfl, .inr ⟨A, z, rfl, h3⟩, hf0, rfl, hu, rfl, rfl, ?_⟩⟩;show (Dk.put ⟨nm z.n, dat z.L, (dat z.L).length⟩ (Dk.del nD L2)).length = _
  rw [l3.1];omega
 ·rw [e3]
  exact fin ks (D2 := { D with set := s2, L := L2 }) (mk s2 h2 g2.1 hl2) rfl rfl
structure Inv (i : Nat) (G : Lg) (D : Dk.St) : Prop where
 st : G.st ≤ D.starts
 few : D.starts ≤ i
 k : (∃ F Z, Lv F Z G D ∧ F + cnt Z ≤ i) ∨ (state D G ≠ 0 ∧ ∃ F Z tl, Dkd F Z tl D ∧ F + cnt Z ≤ i)
theorem Inv.lv (h : Inv i G D) (hs : state D G = 0) : ∃ F Z, Lv F Z G D ∧ F + cnt Z ≤ i := by
 rcases h.k with q | ⟨q, _⟩
 ·exact q
 ·exact absurd hs q
theorem Inv.dkd (h : Inv i G D) : ∃ F Z tl, Dkd F Z tl D ∧ F + cnt Z ≤ i := by
 rcases h.k with ⟨F, Z, q1, q2⟩ | ⟨_, q⟩
 ·exact ⟨F, Z, [], q1.dkd, q2⟩
 ·exact q
theorem Inv.next_ {j : Nat} (h : Inv i G D) (hj : i ≤ j) : Inv j G D := by
 refine ⟨h.st, by have := h.few; omega, ?_⟩;rcases h.k with ⟨F, Z, q1, q2⟩ | ⟨q, F, Z, tl, q1, q2⟩
 ·exact .inl ⟨F, Z, q1, by omega⟩
 ·exact .inr ⟨q, F, Z, tl, q1, by omega⟩
theorem Inv.nxt {F : Nat} {Z : List Sg} {D' : Dk.St} {G' : Lg} (h : Inv i G D) (hn : Nxt F Z D (i + 1) D' G') (hst : G'.st = G.st) : Inv (i + 1) G' D' := by
 obtain ⟨q1, q2, q3, F', Z', q4, q5, q6, q7⟩ := hn;refine ⟨by rw [hst, q2]; exact h.st, by rw [q2]; have := h.few; omega, ?_⟩;rcases q7 with q | ⟨tl, p1, p2⟩
 ·exact .inl ⟨F', Z', q, q5⟩
 ·exact .inr ⟨by rw [down_state p2]; decide, F', Z', tl, p1.dkd, q5⟩
theorem begin6_st (G : Lg) (f : List UInt8) (es : List Nat) (D : Dk.St) : (begin6 G f es D).2.2.st = G.st := by
 unfold begin6;simp only;split <;> rfl
theorem append6_st (x : M.Sp) (G : Lg) (D : Dk.St) : (append6 x G D).2.2.st = G.st := by
 unfold append6;split
 ·rfl
 split
 ·rfl
 split
 ·exact begin6_st _ _ _ _
 ·unfold lay
  simp only;split <;> rfl
theorem rotate6_st (G : Lg) (D : Dk.St) : (rotate6 G D).2.2.st = G.st := by
 unfold rotate6;split
 ·rfl
 split
 ·rfl
 ·exact begin6_st _ _ _ _
theorem sync6_st (G : Lg) (D : Dk.St) : (sync G D).2.2.st = G.st := by
 unfold sync;split <;> rfl
theorem retainL_st (n : Nat) : ∀ (S : List Sm) (G : Lg) (D : Dk.St), (retainL n S G D).2.2.st = G.st
 | [], _, _ => rfl
 | s :: r, G, D => by
  rw [retainL_cons];split
  ·rfl
  split
  ·exact retainL_st n r _ _
  ·rfl
theorem retain6_st (n : Int) (G : Lg) (D : Dk.St) : (retain6 n G D).2.2.st = G.st := by
 unfold retain6;split
 ·rfl
 split
 ·rfl
 ·exact retainL_st _ _ _ _
theorem Inv.append6 (h : Inv i G D) {x : M.Sp} (hf : x.fits) (h8 : i ≤ 800) : Inv (i + 1) (Hl.append6 x G D).2.2 (Hl.append6 x G D).2.1 := by
 by_cases hs : state D G = 0
 ·obtain ⟨F, Z, hl, hi⟩ := h.lv hs
  refine h.nxt (F := F) (Z := Z) ?_ (append6_st x G D);cases hm : M.mayB x with
  | true => exact (append_lv hl hm hf (by omega)).nxt hi
  | false => rw [append_no hl hm]; exact nxt_same hl hi
 ·have e : Hl.append6 x G D = (state D G, D, G) := if_pos hs
  rw [e];exact h.next_ (by omega)
theorem Inv.rotate6 (h : Inv i G D) (h8 : i ≤ 800) : Inv (i + 1) (Hl.rotate6 G D).2.2 (Hl.rotate6 G D).2.1 := by
 by_cases hs : state D G = 0
 ·obtain ⟨F, Z, hl, hi⟩ := h.lv hs
  exact h.nxt ((rotate_lv hl (by omega)).nxt hi) (rotate6_st G D)
 ·have e : Hl.rotate6 G D = (state D G, D, G) := if_pos hs
  rw [e];exact h.next_ (by omega)
theorem Inv.sync6 (h : Inv i G D) : Inv (i + 1) (Hl.sync G D).2.2 (Hl.sync G D).2.1 := by
 by_cases hs : state D G = 0
 ·obtain ⟨F, Z, hl, hi⟩ := h.lv hs
  exact h.nxt ((sync_lv hl).nxt hi) (sync6_st G D)
 ·have e : Hl.sync G D = (state D G, D, G) := if_pos hs
  rw [e];exact h.next_ (by omega)
theorem Inv.retain6 (h : Inv i G D) (n : Int) : Inv (i + 1) (Hl.retain6 n G D).2.2 (Hl.retain6 n G D).2.1 := by
 by_cases hs : state D G = 0
 ·obtain ⟨F, Z, hl, hi⟩ := h.lv hs
  exact h.nxt (retain_nxt hl n hi) (retain6_st n G D)
 ·have e : Hl.retain6 n G D = (state D G, D, G) := if_pos hs
  rw [e];exact h.next_ (by omega)
theorem state_ne {D' : Dk.St} (hs : state D G ≠ 0) (h : D'.up = false ∨ (D'.up = D.up ∧ D'.starts = D.starts)) : state D' G ≠ 0 := by
 unfold Hl.state at hs ⊢;rw [if_pos]
 ·decide
 ·rcases h with h | ⟨h1, h2⟩
  ·exact .inr (.inl h)
  ·rw [h1, h2]
   by_cases q : G.over = true ∨ D.up = false ∨ D.starts ≠ G.st
   ·exact q
   ·rw [if_neg q] at hs; exact absurd rfl hs
theorem Inv.fail6 (h : Inv i G D) (n : Int) (ks : List Int) : Inv (i + 1) G (Dk.fail n ks D).2 := by
 by_cases hs : state D G = 0
 ·obtain ⟨F, Z, hl, hi⟩ := h.lv hs
  exact h.nxt (fail_nxt hl n ks hi) rfl
 ·obtain ⟨F, Z, tl, hd, hi⟩ := h.dkd
  unfold Dk.fail;split
  ·exact h.next_ (by omega)
  split
  ·exact h.next_ (by omega)
  ·exact ⟨h.st, by show D.starts ≤ _; have := h.few; omega, .inr ⟨state_ne hs (.inr ⟨rfl, rfl⟩), F, Z, tl, ⟨hd.hz, hd.f0, hd.len⟩, by omega⟩⟩
theorem Inv.crash6 (h : Inv i G D) (ks : List Int) : Inv i G (Dk.crash ks D).2 := by
 unfold Dk.crash;split
 ·exact h
 ·obtain ⟨F, Z, tl, hd, hi⟩ := h.dkd
  obtain ⟨Z', tl', h1, h2⟩ := hd.fall ks;exact ⟨h.st, h.few, .inr ⟨by rw [down_state rfl]; decide, F, Z', tl', h1, by omega⟩⟩
theorem Inv.start6 (h : Inv i G D) : Inv (i + 1) G (Dk.start D).2 ∧ (Dk.start D).2.up = true := by
 unfold Dk.start;by_cases hu : D.up = true
 ·rw [if_pos hu]
  exact ⟨h.next_ (by omega), hu⟩
 ·rw [if_neg hu]
  obtain ⟨F, Z, tl, hd, hi⟩ := h.dkd;refine ⟨⟨by show _ ≤ D.starts + 1; have := h.st; omega, by show D.starts + 1 ≤ _; have := h.few; omega, .inr ⟨?_, F, Z, tl, ⟨hd.hz, hd.f0, hd.len⟩, by omega⟩⟩, rfl⟩;unfold Hl.state;rw [if_pos (.inr (.inr (by show D.starts + 1 ≠ G.st; have := h.st; omega)))];decide
theorem Inv.open6 (h : Inv i G D) (hu : D.up = true) : ∃ F Z tl, HasS F Z tl D.L ∧
  (((openR Z tl D).1 = 0 ∧ Inv i ⟨D.starts, false, Z.map smOf⟩ (openR Z tl D).2) ∨ ((openR Z tl D).1 ≠ 0 ∧ Inv i G (openR Z tl D).2)) := by
 rcases h.k with ⟨F, Z, hl, hi⟩ | ⟨hs, F, Z, tl, hd, hi⟩
 ·refine ⟨F, Z, [], hl.hz, .inl ?_⟩
  rw [open_again hl];exact ⟨rfl, Nat.le_refl _, h.few, .inl ⟨F, Z, ⟨hl.hz, hl.f0, rfl, hl.up, rfl, rfl, hl.len⟩, hi⟩⟩
 ·refine ⟨F, Z, tl, hd.hz, ?_⟩
  obtain ⟨q1, q2, ⟨q3, q4⟩ | ⟨q3, Z', tl', q4, q5⟩⟩ := open_any hd hu
  ·exact .inl ⟨q3, by show D.starts ≤ _; rw [q2]; exact Nat.le_refl _, by rw [q2]; exact h.few, .inl ⟨F, Z, q4, hi⟩⟩
  ·refine .inr ⟨q3, by rw [q2]; exact h.st, by rw [q2]; exact h.few, .inr ⟨state_ne hs ?_, F, Z', tl', q4, by omega⟩⟩
   cases hb : (openR Z tl D).2.up with
   | false => exact .inl rfl
   | true => exact .inr ⟨by rw [hu], q2⟩
end
end Hl
end
section
open Go Go.RowKit Go.Maps
section
open Hl
variable {X : Nat → Prop} {B b d r q : Nat} {c : Rc} {vs : Value} {G : Hl.Lg} {D : Dk.St} {w w' : World}
theorem Jlt (h : HgX X B b d D G w) (a m : Int) (hs : Hl.state D G ≠ 0) :
  Calls Tryz.prog 17 #[.pointer (some ⟨b, 0, none⟩), .int .i64 a, .int .i64 m] w (Jeg [] 0 51 w) := by
 have CS := Qh (Jay h);rw [Jb0 hs] at CS;clear h hs;go_enter Tryz.func17, Tryz.ntmps17;go_wp2_with fail;with_reducible refine CS.o.mono ?_
 rintro e w1 ⟨rfl, hb⟩;have HB := Qh hb;clear hb CS;go_wp2_with fail;go_ret3
 exact Jb9 HB.o
theorem Jlu (h : HgX X B b d D G w) (hs : Hl.state D G ≠ 0) :
  Calls Tryz.prog 24 #[.pointer (some ⟨b, 0, none⟩)] w fun e w' => e = .returned (.int .i64 (sureL D G : Nat)) ∧ Below w.heap.size w w' := by
 have CS := Qh (Jay h);have he : sureL D G = 0 := if_neg hs;rw [Jb0 hs] at CS;rw [he];clear h hs he;go_enter Tryz.func24, Tryz.ntmps24;go_wp2_with fail;with_reducible refine CS.o.mono ?_
 rintro e w1 ⟨rfl, hb⟩;have HB := Qh hb;clear hb CS;go_wp2_with fail;go_ret;exact ⟨rfl, HB.o⟩
theorem Jf9 (h : DcIn B r q c vs D G w) (x : M.Sp) (hs : Hl.state D G ≠ 0) :
  Calls Tryz.prog 49 #[.pointer (some ⟨q, 0, none⟩), spA6 x] w (OpD B r q c vs (.int .i64 51) D G w) := by
 have CO := Qh (fun W (k : Below w.heap.size w W) => Jbc (h.below k));have HS := Qh (fun W (k : Below w.heap.size w W) => Jbl (v := .int .i64 51) h k);rw [decide_eq_true hs] at CO;clear h hs;unfold spA6;go_enter Tryz.func49, Tryz.ntmps49;go_wp2_with fail;with_reducible refine (CO.o _ (Qa _)).mono ?_
 rintro e w1 ⟨rfl, hb⟩;have HB := Qh (Jaa (Qa _) hb);clear hb CO;go_wp2_with fail;go_ret;exact HS.o _ HB.o
theorem Jga (h : DcIn B r q c vs D G w) (hs : Hl.state D G ≠ 0) :
  Calls Tryz.prog 43 #[.pointer (some ⟨q, 0, none⟩)] w (OpD B r q c vs (.int .i64 51) D G w) := by
 have CO := Qh (Jbc h);have HS := Qh (fun W (k : Below w.heap.size w W) => Jbl (v := .int .i64 51) h k);rw [decide_eq_true hs] at CO;clear h hs;go_enter Tryz.func43, Tryz.ntmps43;go_wp2_with fail;with_reducible refine CO.o.mono ?_
 rintro e w1 ⟨rfl, hb⟩;have HB := Qh hb;clear hb CO;go_wp2_with fail;go_ret;exact HS.o _ HB.o
theorem Jgb (h : DcIn B r q c vs D G w) (n : Int) (hs : Hl.state D G ≠ 0) :
  Calls Tryz.prog 44 #[.pointer (some ⟨q, 0, none⟩), .int .i64 n] w (OpD B r q c vs (.int .i64 51) D G w) := by
 have CO := Qh (Jbc h);have HS := Qh (fun W (k : Below w.heap.size w W) => Jbl (v := .int .i64 51) h k);rw [decide_eq_true hs] at CO;clear h hs;go_enter Tryz.func44, Tryz.ntmps44;go_wp2_with fail;with_reducible refine CO.o.mono ?_
 rintro e w1 ⟨rfl, hb⟩;have HB := Qh hb;clear hb CO;go_wp2_with fail;go_ret;exact HS.o _ HB.o
theorem Jhy (h : DcIn B r q c vs D G w) (a m : Int) (hs : Hl.state D G ≠ 0) :
  Calls Tryz.prog 45 #[.pointer (some ⟨q, 0, none⟩), .int .i64 a, .int .i64 m] w (Jeg [] 0 51 w) := by
 have CO := Qh (Jbc h);rw [decide_eq_true hs] at CO;clear h hs;go_enter Tryz.func45, Tryz.ntmps45;go_wp2_with fail;with_reducible refine CO.o.mono ?_
 rintro e w1 ⟨rfl, hb⟩;have HB := Qh hb;clear hb CO;go_wp2_with fail;go_ret3
 exact Jb9 HB.o
end
end
section
open Go Go.RowKit Go.Maps
section
open Hl
variable {X X' P P' A : Nat → Prop} {B b d r q : Nat} {c : Rc} {vs : Value} {G Gr : Hl.Lg} {D Dr : Dk.St} {w w' w1 : World} {lp ld : Option (Nat × Hl.Lg)}
def PrA (X : Nat → Prop) (B d : Nat) (D : Dk.St) (lp : Option (Nat × Hl.Lg)) (w : World) : Prop := match lp with
 | none => DkX X B d D w ∧ Vr w ∧ 3 ≤ B
 | some p => HgX X B p.1 d D p.2 w
def DcA (B r : Nat) (D : Dk.St) (ld : Option (Nat × Hl.Lg)) (A : Nat → Prop) (w : World) : Prop := match ld with
 | none => ∃ c, RfIn B r c D w ∧ B ≤ r ∧ A = Fr r c
 | some p => ∃ c vs, DcIn B r p.1 c vs D p.2 w ∧ A = DcF r p.1 c vs
theorem PrA.below (h : PrA X B d D lp w) (hb : Below w.heap.size w w') : PrA X B d D lp w' := by
 cases lp with
 | none => exact ⟨h.1.below hb, h.2.1.below hb, h.2.2⟩
 | some p => exact HgX.below h hb
theorem PrA.more (h : PrA X B d D lp w) (hX : ∀ k, X' k → X k ∨ w.heap.size ≤ k) : PrA X' B d D lp w := by
 cases lp with
 | none => exact ⟨h.1.more hX, h.2⟩
 | some p => exact HgX.more h hX
theorem PrA.wr (h : PrA X B d D lp w) (hw : Wr A w w') (hA : ∀ k, A k → X k ∧ 3 ≤ k) : PrA X B d D lp w' := by
 cases lp with
 | none => exact ⟨h.1.wr hw (fun k hk => (hA k hk).1), h.2.1.wr hw (fun k hk ha => by have := (hA k ha).2; omega), h.2.2⟩
 | some p => exact HgX.wr h hw hA
theorem PrA.b3 (h : PrA X B d D lp w) : 3 ≤ B := by
 cases lp with
 | none => exact h.2.2
 | some p => obtain ⟨vs, P, h1, h2, h3, h4, h5⟩ := h; exact h5
theorem PrA.vr (h : PrA X B d D lp w) : Vr w := by
 cases lp with
 | none => exact h.2.1
 | some p => exact HgX.vr h
theorem PrA.dk (h : PrA X B d D lp w) : ∃ Y : Nat → Prop, DkX Y B d D w ∧ (∀ k, X k → Y k) ∧ ((∀ k, X k → k < w.heap.size) → ∀ k, Y k → k < w.heap.size) ∧
  ∀ D' w', Wr (fun k => B ≤ k ∧ ¬ Y k) w w' → DkX Y B d D' w' → Vr w' → PrA X B d D' lp w' := by
 cases lp with
 | none => exact ⟨X, h.1, fun k hk => hk, fun q => q, fun D' w' hw hd hv => ⟨hd, hv, h.2.2⟩⟩
 | some p =>
  obtain ⟨vs, P, h1, h2, h3, h4, h5⟩ := h;exact ⟨_, h2, fun k hk => .inl hk, fun q k hk => hk.elim (q k) (fun z => (h1.lt k z).2), fun D' w' hw hd hv => ⟨vs, P, h1.wr hw (fun k hk z => z.2 (.inr hk)), hd, h3, hv, h5⟩⟩
theorem DcA.below (h : DcA B r D ld A w) (hb : Below w.heap.size w w') : DcA B r D ld A w' := by
 cases ld with
 | none => obtain ⟨c, h1, h2, h3⟩ := h; exact ⟨c, h1.below hb, h2, h3⟩
 | some p => obtain ⟨c, vs, h1, h2⟩ := h; exact ⟨c, vs, h1.below hb, h2⟩
theorem DcA.wr {A' : Nat → Prop} (h : DcA B r D ld A w) (hw : Wr A' w w') (hA : ∀ k, A k → ¬ A' k) : DcA B r D ld A w' := by
 cases ld with
 | none => obtain ⟨c, h1, h2, rfl⟩ := h; exact ⟨c, h1.wr hw hA, h2, rfl⟩
 | some p => obtain ⟨c, vs, h1, rfl⟩ := h; exact ⟨c, vs, h1.wr hw hA, rfl⟩
theorem DcA.lt (h : DcA B r D ld A w) : ∀ k, A k → B ≤ k ∧ k < w.heap.size := by
 cases ld with
 | none =>
  obtain ⟨c, h1, h2, rfl⟩ := h;intro k hk;obtain ⟨h3, h4⟩ := h1.fr k hk;exact ⟨h3.elim (fun e => by omega) id, h4⟩
 | some p => obtain ⟨c, vs, h1, rfl⟩ := h; exact h1.lt
theorem DcA.rf (h : DcA B r D ld A w) : ∃ c, RfIn B r c D w ∧ B ≤ r ∧ (∀ k, Fr r c k → A k) ∧
  ∀ v D' e w', OpI B r c v D' w e w' → ∃ A', DcA B r D' ld A' w' ∧ (∀ k, A' k → A k ∨ w.heap.size ≤ k) ∧ Wr A w w' := by
 cases ld with
 | none =>
  obtain ⟨c, h1, h2, rfl⟩ := h;refine ⟨c, h1, h2, fun k hk => hk, fun v D' e w' ⟨_, c', q1, q2, q3⟩ => ⟨_, ⟨c', q1, h2, rfl⟩, q2, q3⟩⟩
 | some p =>
  obtain ⟨c, vs, h1, rfl⟩ := h;refine ⟨c, h1.disk, h1.br, fun k hk => .inl hk, fun v D' e w' ho => ?_⟩;obtain ⟨_, c', vs', q1, q2, q3⟩ := OpI.dc h1 ho;exact ⟨_, ⟨c', vs', q1, rfl⟩, q2, q3⟩
def Bn (P : Nat → Prop) (B d r : Nat) (lp : Option (Nat × Hl.Lg)) (D : Dk.St) (ld : Option (Nat × Hl.Lg)) (Dr : Dk.St) (w : World) : Prop :=
 ∃ X A, PrA X B d D lp w ∧ DcA B r Dr ld A w ∧ (∀ k, A k → X k ∧ ¬ P k) ∧ (∀ k, P k → X k ∧ B ≤ k) ∧ (∀ k, X k → k < w.heap.size) ∧ B ≤ w.heap.size
theorem Bn.size (h : Bn P B d r lp D ld Dr w) : B ≤ w.heap.size := by obtain ⟨X, A, h1, h2, h3, h4, h5, h6⟩ := h; exact h6
theorem Bn.vr (h : Bn P B d r lp D ld Dr w) : Vr w := by obtain ⟨X, A, h1, h2, h3, h4, h5, h6⟩ := h; exact h1.vr
theorem Bn.dok (h : Bn P B d r lp D ld Dr w) : Dk.Ok D := by obtain ⟨X, A, h1, h2, h3, h4, h5, h6⟩ := h; obtain ⟨Y, q, _⟩ := h1.dk; exact q.ok
theorem Bn.below (h : Bn P B d r lp D ld Dr w) (hb : Below w.heap.size w w') : Bn P B d r lp D ld Dr w' := by
 obtain ⟨X, A, h1, h2, h3, h4, h5, h6⟩ := h;exact ⟨X, A, h1.below hb, h2.below hb, h3, h4, fun k hk => Nat.lt_of_lt_of_le (h5 k hk) hb.size, Nat.le_trans h6 hb.size⟩
theorem Bn.less (h : Bn P B d r lp D ld Dr w) (hP : ∀ k, P' k → P k) : Bn P' B d r lp D ld Dr w := by
 obtain ⟨X, A, h1, h2, h3, h4, h5, h6⟩ := h;exact ⟨X, A, h1, h2, fun k hk => ⟨(h3 k hk).1, fun z => (h3 k hk).2 (hP k z)⟩, fun k hk => h4 k (hP k hk), h5, h6⟩
theorem Bn.newrow (h : Bn P B d r lp D ld Dr w) (hb : Below w.heap.size w w') : Bn (fun k => P k ∨ (w.heap.size ≤ k ∧ k < w'.heap.size)) B d r lp D ld Dr w' := by
 obtain ⟨X, A, h1, h2, h3, h4, h5, h6⟩ := h;refine ⟨fun k => X k ∨ (w.heap.size ≤ k ∧ k < w'.heap.size), A, (h1.more (fun k hk => hk.imp id (fun z => z.1))).below hb, h2.below hb, fun k hk => ⟨.inl (h3 k hk).1, fun z => ?_⟩, fun k hk => ?_, fun k hk => ?_, Nat.le_trans h6 hb.size⟩
 ·rcases z with z | z
  ·exact (h3 k hk).2 z
  ·have := (h2.lt k hk).2; omega
 ·rcases hk with z | z
  ·exact ⟨.inl (h4 k z).1, (h4 k z).2⟩
  ·exact ⟨.inr z, Nat.le_trans h6 z.1⟩
 ·rcases hk with z | z
  ·exact Nat.lt_of_lt_of_le (h5 k z) hb.size
  ·exact z.2
theorem Bn.wr {A' : Nat → Prop} (h : Bn P B d r lp D ld Dr w) (hw : Wr A' w w') (hA : ∀ k, A' k → P k) : Bn P B d r lp D ld Dr w' := by
 obtain ⟨X, A, h1, h2, h3, h4, h5, h6⟩ := h;have hB := h1.b3;refine ⟨X, A, h1.wr hw (fun k hk => ⟨(h4 k (hA k hk)).1, Nat.le_trans hB (h4 k (hA k hk)).2⟩), h2.wr hw (fun k hk z => (h3 k hk).2 (hA k z)), h3, h4, fun k hk => Nat.lt_of_lt_of_le (h5 k hk) hw.size, Nat.le_trans h6 hw.size⟩
theorem Bn.pstep {lp' : Option (Nat × Hl.Lg)} {D' : Dk.St} {X : Nat → Prop} (h2 : DcA B r Dr ld A w) (h3 : ∀ k, A k → X k ∧ ¬ P k) (h4 : ∀ k, P k → X k ∧ B ≤ k) (h5 : ∀ k, X k → k < w.heap.size) (h6 : B ≤ w.heap.size)
  (hw : Wr (fun k => B ≤ k ∧ ¬ X k) w w') (h1 : PrA X B d D' lp' w') : Bn P B d r lp' D' ld Dr w' ∧ Wr (fun k => B ≤ k ∧ ¬ P k) w w' :=
 ⟨⟨X, A, h1, h2.wr hw (fun k hk z => z.2 (h3 k hk).1), h3, h4, fun k hk => Nat.lt_of_lt_of_le (h5 k hk) hw.size, Nat.le_trans h6 hw.size⟩, hw.mono (fun k hk => .inl ⟨hk.1, fun z => hk.2 (h4 k z).1⟩)⟩
theorem Bn.dstep {ld' : Option (Nat × Hl.Lg)} {Dr' : Dk.St} {X A' : Nat → Prop} (h1 : PrA X B d D lp w) (h2 : DcA B r Dr ld A w) (h3 : ∀ k, A k → X k ∧ ¬ P k) (h4 : ∀ k, P k → X k ∧ B ≤ k) (h5 : ∀ k, X k → k < w.heap.size) (h6 : B ≤ w.heap.size)
  (k1 : DcA B r Dr' ld' A' w') (k2 : ∀ k, A' k → A k ∨ w.heap.size ≤ k) (k3 : Wr A w w') : Bn P B d r lp D ld' Dr' w' ∧ Wr (fun k => B ≤ k ∧ ¬ P k) w w' := by
 have hB := h1.b3;refine ⟨⟨fun k => X k ∨ (w.heap.size ≤ k ∧ k < w'.heap.size), A', (h1.more (fun k hk => hk.imp id (fun z => z.1))).wr k3 (fun k hk => ⟨.inl (h3 k hk).1, Nat.le_trans hB (h2.lt k hk).1⟩), k1, fun k hk => ?_, fun k hk => ⟨.inl (h4 k hk).1, (h4 k hk).2⟩, fun k hk => ?_, Nat.le_trans h6 k3.size⟩, k3.mono (fun k hk => .inl ⟨(h2.lt k hk).1, (h3 k hk).2⟩)⟩
 ·rcases k2 k hk with z | z
  ·exact ⟨.inl (h3 k z).1, (h3 k z).2⟩
  ·exact ⟨.inr ⟨z, (k1.lt k hk).2⟩, fun y => by have := h5 k (h4 k y).1; omega⟩
 ·rcases hk with z | z
  ·exact Nat.lt_of_lt_of_le (h5 k z) k3.size
  ·exact z.2
theorem Bn.plog {f : FuncId} {args : Array Value} {res : Int × Dk.St × Hl.Lg} (h : Bn P B d r (some (b, G)) D ld Dr w) (C : ∀ X, HgX X B b d D G w → (∀ k, X k → k < w.heap.size) → B ≤ w.heap.size → Calls Tryz.prog f args w (HgO X B b d res w)) :
  Calls Tryz.prog f args w fun e w' => e = .returned (.int .i64 res.1) ∧ Bn P B d r (some (b, res.2.2)) res.2.1 ld Dr w' ∧ Wr (fun k => B ≤ k ∧ ¬ P k) w w' := by
 obtain ⟨X, A, h1, h2, h3, h4, h5, h6⟩ := h;exact (C X h1 h5 h6).mono fun e w' ⟨o1, o2, o3⟩ => ⟨o1, Bn.pstep h2 h3 h4 h5 h6 o3 (show PrA X B d res.2.1 (some (b, res.2.2)) w' from o2)⟩
theorem Bn.pdisk {f : FuncId} {args : Array Value} {res : Int × Dk.St} (h : Bn P B d r lp D ld Dr w) (C : ∀ X, DkX X B d D w → (∀ k, X k → k < w.heap.size) → B ≤ w.heap.size → Calls Tryz.prog f args w (OpX X B d res w)) :
  Calls Tryz.prog f args w fun e w' => e = .returned (.int .i64 res.1) ∧ Bn P B d r lp res.2 ld Dr w' ∧ Wr (fun k => B ≤ k ∧ ¬ P k) w w' := by
 obtain ⟨X, A, h1, h2, h3, h4, h5, h6⟩ := h;obtain ⟨Y, q1, q2, q3, q4⟩ := h1.dk;have hB := h1.b3;have hv := h1.vr;exact (C Y q1 (q3 h5) h6).mono fun e w' ⟨o1, o2, o3⟩ => ⟨o1, Bn.pstep h2 h3 h4 h5 h6 (o3.mono (fun k hk => .inl ⟨hk.1, fun z => hk.2 (q2 k z)⟩)) (q4 _ w' o3 o2 (hv.wr o3 (fun k hk z => by have := z.1; omega)))⟩
theorem Bn.dlog {f : FuncId} {args : Array Value} {v : Value} {Dr' : Dk.St} {Gr' : Hl.Lg} (h : Bn P B d r lp D (some (q, Gr)) Dr w) (C : ∀ c vs, DcIn B r q c vs Dr Gr w → B ≤ w.heap.size → Calls Tryz.prog f args w (OpD B r q c vs v Dr' Gr' w)) :
  Calls Tryz.prog f args w fun e w' => e = .returned v ∧ Bn P B d r lp D (some (q, Gr')) Dr' w' ∧ Wr (fun k => B ≤ k ∧ ¬ P k) w w' := by
 obtain ⟨X, A, h1, h2, h3, h4, h5, h6⟩ := h;obtain ⟨c, vs, q1, q2⟩ := id h2;subst q2;exact (C c vs q1 h6).mono fun e w' ⟨o1, c', vs', o2, o3, o4⟩ => ⟨o1, Bn.dstep h1 h2 h3 h4 h5 h6 ⟨c', vs', o2, rfl⟩ o3 o4⟩
theorem Bn.ddisk {f : FuncId} {args : Array Value} {v : Value} {Dr' : Dk.St} (h : Bn P B d r lp D ld Dr w) (C : ∀ c, RfIn B r c Dr w → B ≤ r → B ≤ w.heap.size → Calls Tryz.prog f args w (OpI B r c v Dr' w)) :
  Calls Tryz.prog f args w fun e w' => e = .returned v ∧ Bn P B d r lp D ld Dr' w' ∧ Wr (fun k => B ≤ k ∧ ¬ P k) w w' := by
 obtain ⟨X, A, h1, h2, h3, h4, h5, h6⟩ := h;obtain ⟨c, q1, q2, q3, q4⟩ := h2.rf;refine (C c q1 q2 h6).mono fun e w' ho => ?_
 obtain ⟨A', p1, p2, p3⟩ := q4 _ _ _ _ ho;exact ⟨ho.1, Bn.dstep h1 h2 h3 h4 h5 h6 p1 p2 p3⟩
theorem Bn.hg (h : Bn P B d r (some (b, G)) D ld Dr w) : ∃ X, HgX X B b d D G w := by obtain ⟨X, A, h1, h2, h3, h4, h5, h6⟩ := h; exact ⟨X, h1⟩
theorem Bn.dc (h : Bn P B d r lp D (some (q, Gr)) Dr w) : ∃ c vs, DcIn B r q c vs Dr Gr w := by obtain ⟨X, A, h1, ⟨c, vs, h2, _⟩, _⟩ := h; exact ⟨c, vs, h2⟩
theorem Bn.pl5 (h : Bn P B d r lp D ld Dr w) : Pl5 (fun _ => False) B d r D Dr w := by
 obtain ⟨X, A, h1, h2, h3, h4, h5, h6⟩ := h;obtain ⟨Y, ⟨F, q1, q2⟩, q3, _⟩ := h1.dk;obtain ⟨c, p1, p2, p3, _⟩ := h2.rf;exact ⟨F, c, q1, p1, p2, fun k hk => ⟨fun z => q2 k z (q3 k (h3 k (p3 k hk)).1), fun z => z⟩, fun k hk => hk.elim, fun k hk => hk.elim, h6⟩
theorem Bn.popen {F : Nat} {Z : List Sg} {tz : List UInt8} (h : Bn P B d r lp D ld Dr w) (hst : D.starts ≤ 1000000000) (hZ : HasS F Z tz D.L) (hu : D.up = true) :
  Calls Tryz.prog 18 #[.pointer (some ⟨d, 0, none⟩)] w fun e w' => Wr (fun k => B ≤ k ∧ ¬ P k) w w' ∧
   (((openR Z tz D).1 ≠ 0 ∧ e = .returned (.tuple #[.pointer none, .int .i64 (openR Z tz D).1]) ∧ Bn P B d r lp (openR Z tz D).2 ld Dr w') ∨
   ((openR Z tz D).1 = 0 ∧ ∃ b', e = .returned (.tuple #[.pointer (some ⟨b', 0, none⟩), .int .i64 0]) ∧ Bn P B d r (some (b', ⟨D.starts, false, Z.map smOf⟩)) (openR Z tz D).2 ld Dr w')) := by
 obtain ⟨X, A, h1, h2, h3, h4, h5, h6⟩ := h;obtain ⟨Y, q1, q2, q3, q4⟩ := h1.dk;refine (Jhg q1 (q3 h5) h6 h1.vr h1.b3 hst Z tz (hZ.load hu) (hZ.torn hu)).mono fun e w' ⟨hw, ho⟩ => ?_
 have hw2 : Wr (fun k => B ≤ k ∧ ¬ X k) w w' := hw.mono (fun k hk => .inl ⟨hk.1, fun z => hk.2 (q2 k z)⟩);rcases ho with ⟨e1, e2, e3, e4⟩ | ⟨e1, b', e2, e3, e4⟩
 ·have := Bn.pstep (d := d) (lp' := lp) h2 h3 h4 h5 h6 hw2 (q4 _ w' hw e3 e4)
  exact ⟨this.2, .inl ⟨e1, e2, this.1⟩⟩
 ·have := Bn.pstep (d := d) (lp' := some (b', _)) h2 h3 h4 h5 h6 hw2 (show PrA X B d _ (some (b', _)) w' from HgX.less e4 q2)
  exact ⟨this.2, .inr ⟨e1, b', e2, this.1⟩⟩
theorem Bn.dopen {F : Nat} {Z : List Sg} {tz : List UInt8} (h : Bn P B d r lp D ld Dr w) (hO : Dk.Ok Dr) (hZ : HasS F Z tz Dr.L) (hu : Dr.up = true) :
  Calls Tryz.prog 41 #[.pointer (some ⟨r, 0, none⟩)] w fun e w' => Wr (fun k => B ≤ k ∧ ¬ P k) w w' ∧
   (((openR Z tz Dr).1 ≠ 0 ∧ e = .returned (.tuple #[.pointer none, .int .i64 (openR Z tz Dr).1]) ∧ Bn P B d r lp D ld (openR Z tz Dr).2 w') ∨
   ((openR Z tz Dr).1 = 0 ∧ ∃ q', e = .returned (.tuple #[.pointer (some ⟨q', 0, none⟩), .int .i64 0]) ∧ Bn P B d r lp D (some (q', ⟨Dr.starts, false, Z.map smOf⟩)) (openR Z tz Dr).2 w')) := by
 obtain ⟨X, A, h1, h2, h3, h4, h5, h6⟩ := h;obtain ⟨c, q1, q2, q3, q4⟩ := h2.rf;have key := Jo8 q1 hO h6 q2 Z hZ.few1 hZ.nms hZ.numsN hZ.sg (hZ.hM hu);rw [hZ.opnD] at key;refine key.mono fun e w' ho => ?_
 rcases ho with ⟨e1, ho⟩ | ⟨e1, q', c', vs', e2, e3, e4, e5, e6⟩
 ·obtain ⟨A', p1, p2, p3⟩ := q4 _ _ _ _ ho
  have := Bn.dstep (P := P) h1 h2 h3 h4 h5 h6 p1 p2 p3;exact ⟨this.2, .inl ⟨e1, ho.1, this.1⟩⟩
 ·have := Bn.dstep (P := P) (ld' := some (q', ⟨Dr.starts, false, Z.map smOf⟩)) h1 h2 h3 h4 h5 h6 ⟨c', vs', e4, rfl⟩ (fun k hk => (e5 k hk).imp (q3 k) id) (e6.mono (fun k hk => .inl (q3 k hk)))
  exact ⟨this.2, .inr ⟨e1, q', e2, this.1⟩⟩
end
end
section
open Go Go.RowKit Go.Maps
section
open Hl
variable {B d r x i : Nat} {G : Hl.Lg} {D : Dk.St} {w w' : World} {lp ld : Option (Nat × Hl.Lg)} {lv rv : Value}
abbrev bxC (d r : Nat) (lv rv : Value) : Array Value := #[.pointer (some ⟨d, 0, none⟩), lv, .pointer (some ⟨r, 0, none⟩), rv]
def OpnB (B d r x : Nat) (lp ld : Option (Nat × Hl.Lg)) (lv rv : Value) (res : Int × Dk.St) (G : Hl.Lg) (w : World) (e : Ending) (w' : World) : Prop :=
 e = .returned (.bool true) ∧ Below B w w' ∧
 ((res.1 ≠ 0 ∧ Bn (fun k => k = x) B d r lp res.2 ld res.2 w' ∧ Bk (bxC d r lv rv) 36 w' x) ∨
 (res.1 = 0 ∧ ∃ b q, Bn (fun k => k = x) B d r (some (b, G)) res.2 (some (q, G)) res.2 w' ∧ Bk (bxC d r (.pointer (some ⟨b, 0, none⟩)) (.pointer (some ⟨q, 0, none⟩))) 36 w' x))
theorem Jnd {F : Nat} {Z : List Sg} {tz : List UInt8} (h : Bn (fun k => k = x) B d r lp D ld D w) (hbx : Bk (bxC d r lv rv) 36 w x) (hst : D.starts ≤ 1000000000) (hZ : HasS F Z tz D.L) (hu : D.up = true) :
  Calls Tryz.prog 14 #[.pointer (some ⟨x, 0, none⟩)] w (OpnB B d r x lp ld lv rv (openR Z tz D) ⟨D.starts, false, Z.map smOf⟩ w) := by
 have CP := Qh (h.popen hst hZ hu);have CD := Qh (fun lp' D' W (k : Bn (fun k => k = x) B d r lp' D' ld D W) => k.dopen h.dok hZ hu);have HSZ := Qh h.size;have HX := Qh hbx;have x0 := hbx.cell 0;simp at x0;unfold OpnB;generalize openR Z tz D = res at *;obtain ⟨G0, hG0⟩ : ∃ y, y = (⟨D.starts, false, Z.map smOf⟩ : Lg) := ⟨_, rfl⟩
 rw [← hG0] at CP CD ⊢;clear h hZ hu hst hbx hG0;obtain ⟨er, D1⟩ := res;simp only at CP CD ⊢;by_cases h0 : er = 0
 ·subst h0
  go_enter Tryz.func14, Tryz.ntmps14;go_wp2_with fail;with_reducible refine CP.o.mono ?_
  rintro e w1 ⟨hw, ⟨q1, _⟩ | ⟨_, b, rfl, hn⟩⟩
  ·exact absurd rfl q1
  have HB := Qh (hw.below (fun k hk => hk.1) HSZ.o);replace HX := Qh (HX.o.wr hw (fun q => q.2 rfl));have HN := Qh hn;clear hw hn CP x0;have x2 := HX.o.cell 2;simp at x2;go_wp2_with fail;with_reducible refine (CD.o _ _ _ HN.o).mono ?_
  rintro e w2 ⟨hw, ⟨q1, _⟩ | ⟨_, q, rfl, hn⟩⟩
  ·exact absurd rfl q1
  replace HB := Qh (HB.o.trans (hw.below (fun k hk => hk.1) HN.o.size));replace HX := Qh (HX.o.wr hw (fun q => q.2 rfl));replace HN := Qh hn;clear hw hn CD x2;have f1 := HX.o.free 1;have f3 := (HX.o.set 1 (.pointer (some ⟨b, 0, none⟩))).free 3;have m1 := HX.o.cell 1;have m3 := HX.o.cell 3;simp at m1 m3;have HF := Qh (HX.o.set 1 (.pointer (some ⟨b, 0, none⟩)) |>.set 3 (.pointer (some ⟨q, 0, none⟩)))
  have HBX := Qh (show B ≤ x from by
   obtain ⟨X, A, h1, h2, h3, h4, h5, h6⟩ := HN.o
   exact (h4 x rfl).2)
  have HN2 := Qh ((HN.o.wr (Jai (A := fun k => k = x) w2 ⟨x, 1, none⟩ (.pointer (some ⟨b, 0, none⟩)) rfl) (fun k hk => hk)).wr (Jai (A := fun k => k = x) _ ⟨x, 3, none⟩ (.pointer (some ⟨q, 0, none⟩)) rfl) (fun k hk => hk));have HB2 := Qh ((HB.o.setCell (p := ⟨x, 1, none⟩) HBX.o (.pointer (some ⟨b, 0, none⟩))).setCell (p := ⟨x, 3, none⟩) HBX.o (.pointer (some ⟨q, 0, none⟩)));clear HN HB;go_wp2_with fail;go_ret;exact ⟨rfl, HB2.o, .inr ⟨by trivial, b, q, HN2.o, HF.o⟩⟩
 ·have q0 : ((er : Int) != er) = false := by simp
  go_enter Tryz.func14, Tryz.ntmps14;go_wp2_with fail;with_reducible refine CP.o.mono ?_
  rintro e w1 ⟨hw, ⟨_, rfl, hn⟩ | ⟨q1, _⟩⟩;rotate_left
  ·exact absurd q1 h0
  have HB := Qh (hw.below (fun k hk => hk.1) HSZ.o);replace HX := Qh (HX.o.wr hw (fun q => q.2 rfl));have HN := Qh hn;clear hw hn CP x0;have x2 := HX.o.cell 2;simp at x2;go_wp2_with fail;with_reducible refine (CD.o _ _ _ HN.o).mono ?_
  rintro e w2 ⟨hw, ⟨_, rfl, hn⟩ | ⟨q1, _⟩⟩;rotate_left
  ·exact absurd q1 h0
  replace HB := Qh (HB.o.trans (hw.below (fun k hk => hk.1) HN.o.size));replace HX := Qh (HX.o.wr hw (fun q => q.2 rfl));replace HN := Qh hn;clear hw hn CD x2;go_wp2_with fail;go_ret;exact ⟨rfl, HB.o, .inl ⟨h0, HN.o, HX.o⟩⟩
def Bch (i B d r x : Nat) (w : World) : Prop := ∃ b q G D, Bn (fun k => k = x) B d r (some (b, G)) D (some (q, G)) D w ∧ Inv i G D ∧ Bk (bxC d r (.pointer (some ⟨b, 0, none⟩)) (.pointer (some ⟨q, 0, none⟩))) 36 w x
theorem Bch.below (h : Bch i B d r x w) (hb : Below w.heap.size w w') : Bch i B d r x w' := by
 obtain ⟨b, q, G, D, h1, h2, h3⟩ := h;exact ⟨b, q, G, D, h1.below hb, h2, h3.below hb⟩
theorem Bch.size (h : Bch i B d r x w) : B ≤ w.heap.size := by obtain ⟨b, q, G, D, h1, h2, h3⟩ := h; exact h1.size
theorem Jhj {b q : Nat} (h : Bn (fun k => k = x) B d r (some (b, G)) D (some (q, G)) D w) (hi : Inv i G D) (h9 : i ≤ 1000) (hu : D.up = true) (hbx : Bk (bxC d r (.pointer (some ⟨b, 0, none⟩)) (.pointer (some ⟨q, 0, none⟩))) 36 w x) :
  Calls Tryz.prog 14 #[.pointer (some ⟨x, 0, none⟩)] w fun e w' => e = .returned (.bool true) ∧ Below B w w' ∧ Bch i B d r x w' := by
 obtain ⟨F, Z, tl, hz, hk⟩ := hi.open6 hu;refine (Jnd h hbx (by have := hi.few; omega) hz hu).mono fun e w' ⟨q1, q2, q3⟩ => ⟨q1, q2, ?_⟩
 rcases q3 with ⟨p0, p1, p2⟩ | ⟨p0, b', q', p1, p2⟩
 ·rcases hk with ⟨k0, _⟩ | ⟨_, k1⟩
  ·exact absurd k0 p0
  ·exact ⟨b, q, G, _, p1, k1, p2⟩
 ·rcases hk with ⟨_, k1⟩ | ⟨k0, _⟩
  ·exact ⟨b', q', _, _, p1, k1, p2⟩
  ·exact absurd p0 k0
end
end
end Go.Proofs.YtmammmjmipgmoaaGreatDoor
