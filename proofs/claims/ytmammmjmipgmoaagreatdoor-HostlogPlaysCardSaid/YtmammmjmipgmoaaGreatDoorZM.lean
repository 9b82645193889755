import Derived.Test.YtmammmjmipgmoaaGreatDoorZI
import Derived.Test.YtmammmjmipgmoaaGreatDoorZC
import Derived.Test.YtmammmjmipgmoaaGreatDoorZD
import Derived.Lib.Atoi
import Derived.Lib.ItoaNum
import Derived.Test.YtmammmjmipgmoaaGreatDoorShelf
import Derived.Test.YtmammmjmipgmoaaGreatDoorZT
import Derived.Lib.AppendIntMem
import Derived.Deep.RegionHeld3
import Derived.Test.YtmammmjmipgmoaaGreatDoorZQh
set_option linter.unusedVariables false
set_option maxRecDepth 100000
set_option maxHeartbeats 16000000
namespace Go.Proofs.YtmammmjmipgmoaaGreatDoor
section
open Go Go.RowKit
namespace Hl
def fr (x : M.Sp) : List UInt8 := M.frameP (M.enc x)
def dat (L : List M.Sp) : List UInt8 := L.flatMap fr
def Mays (L : List M.Sp) : Prop := ∀ x ∈ L, M.mayB x = true ∧ x.fits
theorem Mays.app {A B : List M.Sp} (h : Mays A) (k : Mays B) : Mays (A ++ B) := fun x hx => (List.mem_append.1 hx).elim (h x) (k x)
theorem Mays.take {A : List M.Sp} (h : Mays A) (n : Nat) : Mays (A.take n) := fun x hx => h x (List.mem_of_mem_take hx)
theorem dat_nil : dat [] = [] := rfl
theorem dat_cons (x : M.Sp) (L : List M.Sp) : dat (x :: L) = fr x ++ dat L := rfl
theorem dat_app (A B : List M.Sp) : dat (A ++ B) = dat A ++ dat B := List.flatMap_append
theorem dat_snoc (A : List M.Sp) (x : M.Sp) : dat (A ++ [x]) = dat A ++ fr x := by rw [dat_app]; simp [dat]
theorem fr_len (x : M.Sp) : (fr x).length = (M.enc x).length + 8 := by unfold fr; exact M.frameP_length _
theorem fr_most {x : M.Sp} (h : M.mayB x = true) : (fr x).length ≤ 98 := by rw [fr_len]; have := M.enc_len h; omega
theorem dat_most {L : List M.Sp} (h : Mays L) : (dat L).length ≤ L.length * 98 := by
 induction L with
 | nil => exact Nat.zero_le _
 | cons x L ih =>
  have h1 := fr_most (h x (List.mem_cons_self ..)).1;have h2 := ih (fun y hy => h y (List.mem_cons_of_mem _ hy));rw [dat_cons, List.length_append, List.length_cons]; omega
def ends (L : List M.Sp) : List Nat := (List.range L.length).map fun i => (dat (L.take (i + 1))).length
theorem ends_len (L : List M.Sp) : (ends L).length = L.length := by simp [ends]
theorem ends_at (L : List M.Sp) {i : Nat} (h : i < L.length) : (ends L)[i]? = some (dat (L.take (i + 1))).length := by
 unfold ends;rw [List.getElem?_map, List.getElem?_range h];rfl
theorem ends_snoc (L : List M.Sp) (x : M.Sp) : ends (L ++ [x]) = ends L ++ [(dat L).length + (fr x).length] := by
 unfold ends;rw [List.length_append, List.length_singleton, List.range_succ, List.map_append]
 have h1 : (List.range L.length).map (fun i => (dat ((L ++ [x]).take (i + 1))).length) = (List.range L.length).map (fun i => (dat (L.take (i + 1))).length) := List.map_congr_left fun i hi => by
  have : i < L.length := List.mem_range.1 hi;rw [List.take_append_of_le_length (by omega)]
 rw [h1];simp only [List.map_cons, List.map_nil];rw [List.take_of_length_le (by simp), dat_snoc, List.length_append]
theorem ends_last (L : List M.Sp) (h : L ≠ []) : (ends L).getD (L.length - 1) 0 = (dat L).length := by
 have hp : 0 < L.length := List.length_pos_iff.2 h;have := ends_at L (i := L.length - 1) (by omega);rw [List.getD, this];simp only [Option.getD];rw [show L.length - 1 + 1 = L.length by omega, List.take_length]
theorem dat_take_le (L : List M.Sp) {i j : Nat} (h : i ≤ j) : (dat (L.take i)).length ≤ (dat (L.take j)).length := by
 have e : L.take j = L.take i ++ (L.drop i).take (j - i) := by
  have h1 := List.take_append_drop i (L.take j);rw [List.take_take, Nat.min_eq_left h, List.drop_take] at h1;exact h1.symm
 rw [e, dat_app, List.length_append]; omega
theorem next_rec (A : List UInt8) {x : M.Sp} (h : M.mayB x = true) (v : List UInt8) : M.next (A ++ fr x ++ v) A.length = some (M.enc x, A.length + (fr x).length) := by
 have h1 := (M.next_at A (M.enc x) v (by have := M.enc_len h; omega)).2;unfold fr;rw [h1, M.frameP_length];rfl
def Tail (tl : List UInt8) : Prop := (∀ u : List UInt8, M.next (u ++ tl) u.length = none) ∧ tl.length ≤ 100
theorem tail_nil : Tail [] := ⟨fun u => by
 cases h : M.next (u ++ []) u.length with
 | none => rfl
 | some q =>
  obtain ⟨p, z⟩ := q;have := M.next_bounds h;simp at this
  omega, by simp⟩
theorem tail_cut {x : M.Sp} (h : M.mayB x = true) {c : Nat} (hc : c < (fr x).length) : Tail ((fr x).take c) := ⟨fun u => by
 rw [fr_len] at hc;have hl := M.enc_len h;refine M.next_no fun hs => ?_
 have hlen : ((fr x).take c).length = c := by rw [List.length_take, fr_len]; omega
 have h1 := hs.room;have h2 := hs.fits;rw [List.length_append, hlen] at h1 h2
 have hm : M.many (u ++ (fr x).take c) u.length = (M.enc x).length := by
  have g : ∀ i, i < c → (u ++ (fr x).take c).getD (u.length + i) 0 = (fr x).getD i 0 := fun i hi => by
   rw [Jfy _ _ _ (by omega), Nat.add_sub_cancel_left];simp [List.getD, hi]
  unfold M.many;rw [g 1 (by omega), g 2 (by omega)];have := M.frame_many (M.enc x) (by omega);unfold M.many at this;exact this
 rw [hm] at h2
 omega, by have := fr_most h; rw [List.length_take]; omega⟩
theorem Tail.take {tl : List UInt8} (h : Tail tl) (c : Nat) : Tail (tl.take c) := by
 refine ⟨fun u => M.next_no fun hs => ?_, by have := h.2; rw [List.length_take]; omega⟩;have e := M.of_stands hs;have h1 := hs.fits;have h2 := hs.most;have hpl : (Jah (u ++ tl.take c) (u.length + 3) (u.length + M.many (u ++ tl.take c) u.length + 3)).length = M.many (u ++ tl.take c) u.length := by rw [Jbh _ _ _ (by omega) (by omega)]; omega
 generalize Jah (u ++ tl.take c) (u.length + 3) (u.length + M.many (u ++ tl.take c) u.length + 3) = p at e hpl;have hsplit : u ++ tl = (u ++ tl.take c) ++ tl.drop c := by rw [List.append_assoc, List.take_append_drop]
 have := (M.stands_of (s := u ++ tl) (p := p) (a := u.length) (by omega) (by rw [hsplit, List.length_append]; omega) (by rw [hsplit, Jk4 _ _ _ _ (by omega), hpl]; exact e)).2;rw [h.1 u] at this;cases this
theorem wh_rec {tl : List UInt8} (ht : Tail tl) : ∀ (L : List M.Sp) (A : List UInt8), Mays L → M.wh (A ++ dat L ++ tl) A.length = (L.map M.enc, A.length + (dat L).length)
 | [], A, _ => by
  rw [dat_nil, List.append_nil, M.wh_none (ht.1 A)];rfl
 | x :: L, A, h => by
  have hx := (h x (List.mem_cons_self ..)).1;have e : A ++ dat (x :: L) ++ tl = A ++ fr x ++ (dat L ++ tl) := by rw [dat_cons]; simp [List.append_assoc]
  have ih := wh_rec ht L (A ++ fr x) (fun y hy => h y (List.mem_cons_of_mem _ hy));rw [e, M.wh_some (next_rec A hx _)];rw [List.append_assoc, List.length_append] at ih;rw [ih];simp only [List.map_cons, dat_cons, List.length_append];rw [Nat.add_assoc]
def recs (a : Nat) : List M.Sp → List (List UInt8 × Nat)
 | [] => []
 | x :: L => (M.enc x, a + (fr x).length) :: recs (a + (fr x).length) L
theorem runs_rec {tl : List UInt8} (ht : Tail tl) : ∀ (L : List M.Sp) (A : List UInt8), Mays L → M.runs (A ++ dat L ++ tl) A.length = recs A.length L
 | [], A, _ => by
  rw [dat_nil, List.append_nil, M.runs_none (ht.1 A)];rfl
 | x :: L, A, h => by
  have hx := (h x (List.mem_cons_self ..)).1;have e : A ++ dat (x :: L) ++ tl = A ++ fr x ++ (dat L ++ tl) := by rw [dat_cons]; simp [List.append_assoc]
  have ih := runs_rec ht L (A ++ fr x) (fun y hy => h y (List.mem_cons_of_mem _ hy));rw [e, M.runs_some (next_rec A hx _)];rw [List.append_assoc, List.length_append] at ih;rw [ih];rfl
def inn (L : List M.Sp) (c : Nat) : Nat := (ends L).countP fun e => decide (e ≤ c)
theorem cut_rec : ∀ (L : List M.Sp), Mays L → ∀ c : Nat, ∃ j tl, j ≤ L.length ∧ (dat L).take c = dat (L.take j) ++ tl ∧ Tail tl ∧ (∀ i, i ≤ L.length → (dat (L.take i)).length ≤ c → i ≤ j) ∧ (c < (dat L).length ∨ (j = L.length ∧ tl = []))
 | [], _, c => ⟨0, [], Nat.le_refl _, by simp [dat], tail_nil, fun i hi _ => by simpa using hi, .inr ⟨rfl, rfl⟩⟩
 | x :: L, h, c => by
  have hx := (h x (List.mem_cons_self ..)).1;have hL : Mays L := fun y hy => h y (List.mem_cons_of_mem _ hy)
  by_cases hc : (fr x).length ≤ c
  ·obtain ⟨j, tl, h1, h2, h3, h4, h5⟩ := cut_rec L hL (c - (fr x).length)
   refine ⟨j + 1, tl, by rw [List.length_cons]; omega, ?_, h3, fun i hi hle => ?_, ?_⟩
   ·rw [dat_cons, List.take_append, List.take_of_length_le hc, h2, List.take_succ_cons, dat_cons, List.append_assoc]
   ·cases i with
    | zero => omega
    | succ i =>
     rw [List.take_succ_cons, dat_cons, List.length_append] at hle;have := h4 i (by rw [List.length_cons] at hi; omega) (by omega);omega
   ·rcases h5 with q | ⟨q1, q2⟩
    ·left; rw [dat_cons, List.length_append]; omega
    ·right; exact ⟨by rw [List.length_cons, q1], q2⟩
  ·refine ⟨0, (fr x).take c, Nat.zero_le _, ?_, tail_cut hx (by omega), fun i hi hle => ?_, .inl ?_⟩
   ·rw [dat_cons, List.take_append_of_le_length (by omega)]; rfl
   ·cases i with
    | zero => omega
    | succ i =>
     rw [List.take_succ_cons, dat_cons, List.length_append] at hle;omega
   ·rw [dat_cons, List.length_append]; omega
end Hl
end
section
open Go Go.RowKit
namespace Hl
structure Sg where
 n : Nat
 L : List M.Sp
abbrev nD : List UInt8 := [108, 110, 101, 119]
def nm (n : Nat) : List UInt8 := 108 :: Lib.decDigits n
theorem nm_read : ∀ n : Fin 1000, Lib.atoi (Lib.decDigits n.val) = some (n.val : Int) := by decide +kernel
theorem nm_inj {a b : Nat} (ha : a < 1000) (hb : b < 1000) (h : nm a = nm b) : a = b := by
 have h1 := nm_read ⟨a, ha⟩;have h2 := nm_read ⟨b, hb⟩;have h3 : Lib.decDigits a = Lib.decDigits b := by unfold nm at h; injection h
 simp only at h1 h2;rw [h3, h2] at h1;simp only [Option.some.injEq] at h1;omega
theorem nm_named : ∀ n : Fin 1000, Dk.named (nm n.val) = true := by decide +kernel
theorem nm_draft : ∀ n : Fin 1000, ¬ nm n.val = nD := by decide +kernel
theorem named_nm {n : Nat} (h : n < 1000) : Dk.named (nm n) = true := nm_named ⟨n, h⟩
theorem nm_nD {n : Nat} (h : n < 1000) : nm n ≠ nD := nm_draft ⟨n, h⟩
def flat (A : List Sg) : List M.Sp := A.flatMap (·.L)
def cnt (A : List Sg) : Nat := (flat A).length
theorem flat_cons (s : Sg) (A : List Sg) : flat (s :: A) = s.L ++ flat A := rfl
theorem flat_app (A B : List Sg) : flat (A ++ B) = flat A ++ flat B := List.flatMap_append
theorem flat_one (s : Sg) : flat [s] = s.L := by simp [flat]
theorem cnt_cons (s : Sg) (A : List Sg) : cnt (s :: A) = s.L.length + cnt A := by unfold cnt; rw [flat_cons, List.length_append]
theorem cnt_snoc (A : List Sg) (s : Sg) : cnt (A ++ [s]) = cnt A + s.L.length := by unfold cnt; rw [flat_app, flat_one, List.length_append]
def ChA : Nat → List Sg → Prop
 | _, [] => True
 | n, s :: r => s.n = n ∧ s.L ≠ [] ∧ ChA (n + s.L.length) r
theorem ChA.snoc {s : Sg} : ∀ {A : List Sg} {n : Nat}, ChA n A → s.n = n + cnt A → s.L ≠ [] → ChA n (A ++ [s])
 | [], n, _, h1, h2 => ⟨by simpa [cnt, flat] using h1, h2, trivial⟩
 | t :: A, n, ⟨q1, q2, q3⟩, h1, h2 => ⟨q1, q2, ChA.snoc q3 (by rw [cnt_cons] at h1; omega) h2⟩
theorem ChA.lt : ∀ {A : List Sg} {n : Nat}, ChA n A → ∀ s ∈ A, n ≤ s.n ∧ s.n + s.L.length ≤ n + cnt A ∧ 0 < s.L.length
 | [], n, _, s, hs => by cases hs
 | t :: A, n, ⟨q1, q2, q3⟩, s, hs => by
  have hp : 0 < t.L.length := List.length_pos_iff.2 q2;rw [cnt_cons];rcases List.mem_cons.1 hs with rfl | hs
  ·exact ⟨by omega, by omega, hp⟩
  ·have := ChA.lt q3 s hs
   omega
theorem ChA.up : ∀ {A : List Sg} {n : Nat}, ChA n A → A.Pairwise fun s t => s.n < t.n
 | [], n, _ => .nil
 | t :: A, n, ⟨q1, q2, q3⟩ => by
  have hp : 0 < t.L.length := List.length_pos_iff.2 q2;exact List.pairwise_cons.2 ⟨fun s hs => by have := (ChA.lt q3 s hs).1; omega, ChA.up q3⟩
structure HasZ (F : Nat) (A : List Sg) (z : Sg) (tl : List UInt8) (L : List Dk.Fl) : Prop where
 ok : Dk.OkL L
 whole : ∀ s ∈ A, Dk.has (nm s.n) L = true ∧ Dk.get (nm s.n) L = ⟨nm s.n, dat s.L, (dat s.L).length⟩
 last : Dk.has (nm z.n) L = true ∧ (Dk.get (nm z.n) L).dat = dat z.L ++ tl
 names : ∀ f ∈ L, f.name = nD ∨ f.name = nm z.n ∨ ∃ s ∈ A, f.name = nm s.n
 ch : ChA F A
 zn : z.n = F + cnt A
 mays : ∀ s ∈ A, Mays s.L
 mayz : Mays z.L
 tail : Tail tl
 small : z.n + z.L.length ≤ 900
structure Has0 (L : List Dk.Fl) : Prop where
 ok : Dk.OkL L
 names : ∀ f ∈ L, f.name = nD
section
variable {F : Nat} {A : List Sg} {z : Sg} {tl : List UInt8} {L : List Dk.Fl}
theorem HasZ.n1 (h : HasZ F A z tl L) : z.n < 1000 := by have := h.small; omega
theorem HasZ.nA (h : HasZ F A z tl L) {s : Sg} (hs : s ∈ A) : s.n < z.n ∧ s.n < 1000 := by
 have := h.ch.lt s hs;have := h.zn;have := h.small;omega
theorem HasZ.neA (h : HasZ F A z tl L) {s : Sg} (hs : s ∈ A) : nm s.n ≠ nm z.n := fun e => by
 have h1 := h.nA hs;have := nm_inj h1.2 h.n1 e;omega
theorem get_put_ne {f : Dk.Fl} {nmm : List UInt8} (hok : Dk.OkL (Dk.put f L)) (hne : f.name ≠ nmm) : Dk.has nmm (Dk.put f L) = Dk.has nmm L ∧ Dk.get nmm (Dk.put f L) = Dk.get nmm L := by
 refine ⟨?_, ?_⟩
 ·rw [Dk.has_put]; simp [hne]
 ·rw [Dk.get_put hok, if_neg hne]
theorem get_put_eq {f : Dk.Fl} (hok : Dk.OkL (Dk.put f L)) : Dk.has f.name (Dk.put f L) = true ∧ Dk.get f.name (Dk.put f L) = f := by
 refine ⟨?_, ?_⟩
 ·rw [Dk.has_put]; simp
 ·rw [Dk.get_put hok, if_pos rfl]
theorem has_del_ne {a nmm : List UInt8} (hne : nmm ≠ a) : Dk.has nmm (Dk.del a L) = Dk.has nmm L ∧ Dk.get nmm (Dk.del a L) = Dk.get nmm L := by
 refine ⟨?_, Dk.get_del13 (fun e => hne e.symm) L⟩;rw [Dk.has_del]; simp [hne]
theorem HasZ.putz (h : HasZ F A z tl L) {z' : Sg} {tl' : List UInt8} {k : Nat} (hn : z'.n = z.n) (hm : Mays z'.L) (ht : Tail tl') (hk : k ≤ (dat z'.L ++ tl').length) (hs : z'.n + z'.L.length ≤ 900) :
  HasZ F A z' tl' (Dk.put ⟨nm z.n, dat z'.L ++ tl', k⟩ L) := by
 have hok := h.ok.put (f := ⟨nm z.n, dat z'.L ++ tl', k⟩) (named_nm h.n1) hk;refine ⟨hok, fun s hs => ?_, ?_, fun f hf => ?_, h.ch, by rw [hn]; exact h.zn, h.mays, hm, ht, hs⟩
 ·have e := get_put_ne (nmm := nm s.n) hok (fun e => h.neA hs e.symm)
  rw [e.1, e.2];exact h.whole s hs
 ·rw [hn]
  have e := get_put_eq hok;simp only at e;exact ⟨e.1, by rw [e.2]⟩
 ·rcases Dk.mem_put.1 hf with rfl | ⟨hf, _⟩
  ·exact .inr (.inl (by rw [hn]))
  ·rcases h.names f hf with q | q | q
   ·exact .inl q
   ·exact .inr (.inl (by rw [hn]; exact q))
   ·exact .inr (.inr q)
theorem HasZ.putd (h : HasZ F A z tl L) {s : List UInt8} {k : Nat} (hk : k ≤ s.length) : HasZ F A z tl (Dk.put ⟨nD, s, k⟩ L) := by
 have hok := h.ok.put (f := ⟨nD, s, k⟩) (show Dk.named nD = true from by decide) hk;refine ⟨hok, fun s hs => ?_, ?_, fun f hf => ?_, h.ch, h.zn, h.mays, h.mayz, h.tail, h.small⟩
 ·have e := get_put_ne (nmm := nm s.n) hok (fun e => nm_nD (h.nA hs).2 e.symm)
  rw [e.1, e.2];exact h.whole s hs
 ·have e := get_put_ne (nmm := nm z.n) hok (fun e => nm_nD h.n1 e.symm)
  rw [e.1, e.2];exact h.last
 ·rcases Dk.mem_put.1 hf with rfl | ⟨hf, _⟩
  ·exact .inl rfl
  ·exact h.names f hf
theorem HasZ.deld (h : HasZ F A z tl L) : HasZ F A z tl (Dk.del nD L) := by
 refine ⟨h.ok.del nD, fun s hs => ?_, ?_, fun f hf => h.names f (Dk.mem_del.1 hf).1, h.ch, h.zn, h.mays, h.mayz, h.tail, h.small⟩
 ·have e := has_del_ne (L := L) (nm_nD (h.nA hs).2)
  rw [e.1, e.2];exact h.whole s hs
 ·have e := has_del_ne (L := L) (nm_nD h.n1)
  rw [e.1, e.2];exact h.last
theorem HasZ.drop {s : Sg} (h : HasZ F (s :: A) z tl L) : HasZ (F + s.L.length) A z tl (Dk.del (nm s.n) L) := by
 obtain ⟨q1, q2, q3⟩ := h.ch;have hs0 := List.mem_cons_self (a := s) (l := A);have hup := List.pairwise_cons.1 h.ch.up
 have hne : ∀ t ∈ A, nm t.n ≠ nm s.n := fun t ht e => by
  have h1 := nm_inj (h.nA (List.mem_cons_of_mem _ ht)).2 (h.nA hs0).2 e;have := hup.1 t ht;omega
 refine ⟨h.ok.del _, fun t ht => ?_, ?_, fun f hf => ?_, by rw [← q1] at q3 ⊢; exact q3, by rw [h.zn, cnt_cons]; omega, fun t ht => h.mays t (List.mem_cons_of_mem _ ht), h.mayz, h.tail, h.small⟩
 ·have e := has_del_ne (L := L) (hne t ht)
  rw [e.1, e.2];exact h.whole t (List.mem_cons_of_mem _ ht)
 ·have e := has_del_ne (L := L) (fun e => h.neA hs0 e.symm : nm z.n ≠ nm s.n)
  rw [e.1, e.2];exact h.last
 ·obtain ⟨h1, h2⟩ := Dk.mem_del.1 hf
  rcases h.names f h1 with q | q | ⟨t, ht, q⟩
  ·exact .inl q
  ·exact .inr (.inl q)
  ·rcases List.mem_cons.1 ht with rfl | ht
   ·exact absurd q h2
   ·exact .inr (.inr ⟨t, ht, q⟩)
theorem HasZ.next_ (h : HasZ F A z [] L) (hz : z.L ≠ []) (hsafe : Dk.get (nm z.n) L = ⟨nm z.n, dat z.L, (dat z.L).length⟩) {L0 : List M.Sp} {k : Nat} (hm : Mays L0) (hk : k ≤ (dat L0).length) (hs : z.n + z.L.length + L0.length ≤ 900) :
  HasZ F (A ++ [z]) ⟨z.n + z.L.length, L0⟩ [] (Dk.put ⟨nm (z.n + z.L.length), dat L0, k⟩ L) := by
 have hp : 0 < z.L.length := List.length_pos_iff.2 hz;have hok := h.ok.put (f := ⟨nm (z.n + z.L.length), dat L0, k⟩) (named_nm (by have := h.small; omega)) hk
 have hne : ∀ m, m < 1000 → m < z.n + z.L.length → nm (z.n + z.L.length) ≠ nm m := fun m h1 h2 e => by
  have := nm_inj (by have := h.small; omega) h1 e;omega
 refine ⟨hok, fun s hs => ?_, ?_, fun f hf => ?_, h.ch.snoc h.zn hz, by rw [cnt_snoc]; have := h.zn; simp only; omega, fun s hs => ?_, hm, tail_nil, hs⟩
 ·have hlt : s.n < 1000 ∧ s.n < z.n + z.L.length := by
   rcases List.mem_append.1 hs with hs | hs
   ·have := h.nA hs; omega
   ·rw [List.mem_singleton.1 hs]; have := h.n1; omega
  have e := get_put_ne (nmm := nm s.n) hok (hne _ hlt.1 hlt.2);rw [e.1, e.2];rcases List.mem_append.1 hs with hs | hs
  ·exact h.whole s hs
  ·rw [List.mem_singleton.1 hs]; exact ⟨h.last.1, hsafe⟩
 ·have e := get_put_eq hok
  simp only at e;exact ⟨e.1, by rw [e.2]; simp⟩
 ·rcases Dk.mem_put.1 hf with rfl | ⟨hf, _⟩
  ·exact .inr (.inl rfl)
  ·rcases h.names f hf with q | q | ⟨t, ht, q⟩
   ·exact .inl q
   ·exact .inr (.inr ⟨z, by simp, q⟩)
   ·exact .inr (.inr ⟨t, by simp [ht], q⟩)
 ·rcases List.mem_append.1 hs with hs | hs
  ·exact h.mays s hs
  ·rw [List.mem_singleton.1 hs]; exact h.mayz
theorem HasZ.renamed (h : HasZ F A z tl L) : HasZ F A z [] (Dk.put ⟨nm z.n, dat z.L, (dat z.L).length⟩ (Dk.del nD L)) := by
 have := h.deld.putz (z' := z) (tl' := []) (k := (dat z.L).length) rfl h.mayz tail_nil (by simp) h.small;rw [List.append_nil] at this;exact this
theorem Has0.next_ (h : Has0 L) {L0 : List M.Sp} {k : Nat} (hm : Mays L0) (hk : k ≤ (dat L0).length) (hs : L0.length ≤ 900) : HasZ 0 [] ⟨0, L0⟩ [] (Dk.put ⟨nm 0, dat L0, k⟩ L) := by
 have hok := h.ok.put (f := ⟨nm 0, dat L0, k⟩) (named_nm (by omega)) hk;refine ⟨hok, fun s hs => (by cases hs), ?_, fun f hf => ?_, trivial, rfl, fun s hs => (by cases hs), hm, tail_nil, by simpa using hs⟩
 ·have e := get_put_eq hok
  simp only at e;exact ⟨e.1, by rw [e.2]; simp⟩
 ·rcases Dk.mem_put.1 hf with rfl | ⟨hf, _⟩
  ·exact .inr (.inl rfl)
  ·exact .inl (h.names f hf)
theorem Has0.deld (h : Has0 L) : Has0 (Dk.del nD L) := ⟨h.ok.del nD, fun f hf => h.names f (Dk.mem_del.1 hf).1⟩
theorem Has0.cut (h : Has0 L) (ks : List Int) : Has0 (Dk.cut ks L) := ⟨h.ok.cut ks, fun f hf => by
 obtain ⟨g, hg, k, e⟩ := Dk.mem_cut hf
 rw [e]; exact h.names g hg⟩
def sureZ (z : Sg) (L : List Dk.Fl) : Nat := inn z.L (Dk.get (nm z.n) L).safe
theorem inn_le (X : List M.Sp) (c : Nat) : inn X c ≤ X.length := by
 unfold inn;have := List.countP_le_length (p := fun e => decide (e ≤ c)) (l := ends X);rw [ends_len] at this;exact this
theorem HasZ.cut (h : HasZ F A z tl L) (ks : List Int) : ∃ j tl', j ≤ z.L.length ∧ (∀ i, i ≤ z.L.length → (dat (z.L.take i)).length ≤ (Dk.get (nm z.n) L).safe → i ≤ j) ∧ HasZ F A ⟨z.n, z.L.take j⟩ tl' (Dk.cut ks L) ∧ (Dk.get (nm z.n) (Dk.cut ks L)).safe = (Dk.get (nm z.n) (Dk.cut ks L)).dat.length := by
 obtain ⟨hl1, hl2⟩ := h.last;obtain ⟨hc1, k, hc2⟩ := Dk.get_cut (ks := ks) h.ok hl1;have hsafe := Dk.get_safe h.ok (nm z.n);have hld := Dk.left_dat (Dk.get (nm z.n) L) k hsafe;have hle := Dk.left_le (Dk.get (nm z.n) L) k hsafe;obtain ⟨c, hc⟩ : ∃ c, c = (Dk.left (Dk.get (nm z.n) L) k).safe := ⟨_, rfl⟩
 have hd : (Dk.left (Dk.get (nm z.n) L) k).dat = (dat z.L ++ tl).take c := by
  rw [hc, ← hl2];rfl
 have hw : ∀ s ∈ A, Dk.has (nm s.n) (Dk.cut ks L) = true ∧ Dk.get (nm s.n) (Dk.cut ks L) = ⟨nm s.n, dat s.L, (dat s.L).length⟩ := fun s hs => by
  obtain ⟨q1, q2⟩ := h.whole s hs;obtain ⟨p1, k', p2⟩ := Dk.get_cut (ks := ks) h.ok q1;refine ⟨p1, ?_⟩;rw [p2, q2, Dk.left_all];rfl
 have hn : ∀ f ∈ Dk.cut ks L, f.name = nD ∨ f.name = nm z.n ∨ ∃ s ∈ A, f.name = nm s.n := fun f hf => by
  obtain ⟨g, hg, k', e⟩ := Dk.mem_cut hf;have e1 : f.name = g.name := by rw [e]; rfl
  rw [e1]; exact h.names g hg
 have mk : ∀ j tl', j ≤ z.L.length → (dat z.L ++ tl).take c = dat (z.L.take j) ++ tl' → Tail tl' → HasZ F A ⟨z.n, z.L.take j⟩ tl' (Dk.cut ks L) := fun j tl' hj e ht =>
  ⟨h.ok.cut ks, hw, ⟨hc1, by rw [hc2, hd]; exact e⟩, hn, h.ch, h.zn, h.mays, h.mayz.take j, ht, by have := h.small; simp only [List.length_take]; omega⟩
 have hs2 : (Dk.get (nm z.n) (Dk.cut ks L)).safe = (Dk.get (nm z.n) (Dk.cut ks L)).dat.length := by rw [hc2, hld]
 by_cases hcl : c ≤ (dat z.L).length
 ·obtain ⟨j, tl', h1, h2, h3, h4, h5⟩ := cut_rec z.L h.mayz c
  refine ⟨j, tl', h1, fun i hi hle2 => h4 i hi (by omega), mk j tl' h1 ?_ h3, hs2⟩;rw [List.take_append_of_le_length hcl]; exact h2
 ·
  have hlen : (dat z.L ++ tl).take c = dat z.L ++ tl.take (c - (dat z.L).length) := by
   rw [List.take_append, List.take_of_length_le (by omega)]
  refine ⟨z.L.length, tl.take (c - (dat z.L).length), Nat.le_refl _, fun i hi _ => hi, mk _ _ (Nat.le_refl _) (by rw [List.take_length]; exact hlen) (h.tail.take _), hs2⟩
end
end Hl
end
section
open Go Go.RowKit Go.Maps
structure Vr (w : World) : Prop where
 tab : Lib.TabIs Tryz.prog w "internal/strconv.uint64pow10" .u64 Lib.pow10Tab
 syn : ∃ t p, w.cell? ⟨0, 0, none⟩ = some (.iface t p)
 rng : ∃ t p, w.cell? ⟨1, 0, none⟩ = some (.iface t p)
theorem Ji3 : Tryz.prog.globalNamed "internal/strconv.uint64pow10" = some 2 := by kernel_rfl
theorem Vr.wr {A : Nat → Prop} {w w' : World} (h : Vr w) (hw : Wr A w w') (hA : ∀ k, k < 3 → ¬ A k) : Vr w' := by
 have hlt : ∀ g (a : Value), w.cell? ⟨g, 0, none⟩ = some a → g < w.heap.size := fun g a q => World.block_lt_of_cell? w ⟨g, 0, none⟩ q
 refine ⟨?_, ?_, ?_⟩
 ·have h1 := h.tab
  unfold Lib.TabIs World.var? at *;rw [Ji3] at *;simp only [Option.bind_some] at *
  have hl : 2 < w.heap.size := by
   by_cases q : 2 < w.heap.size
   ·exact q
   ·have e : w.heap[2]? = none := by simp; omega
    rw [e] at h1;cases h1
  rw [hw.block 2 hl (hA 2 (by omega))];exact h1
 ·obtain ⟨t, p, q⟩ := h.syn
  refine ⟨t, p, ?_⟩;rw [← q];exact World.cell?_of_block (a := ⟨0, 0, none⟩) (hw.block 0 (hlt _ _ q) (hA 0 (by omega)))
 ·obtain ⟨t, p, q⟩ := h.rng
  refine ⟨t, p, ?_⟩;rw [← q];exact World.cell?_of_block (a := ⟨1, 0, none⟩) (hw.block 1 (hlt _ _ q) (hA 1 (by omega)))
theorem Vr.below {w w' : World} (h : Vr w) (hb : Below w.heap.size w w') : Vr w' := h.wr (A := fun _ => False) (Jad hb) (fun _ _ q => q)
theorem Vr.sz {w : World} (h : Vr w) : 3 ≤ w.heap.size := by
 have h1 := h.tab;unfold Lib.TabIs World.var? at h1;rw [Ji3] at h1;simp only [Option.bind_some] at h1;by_cases q : 2 < w.heap.size
 ·exact q
 ·have e : w.heap[2]? = none := by simp; omega
  rw [e] at h1;cases h1
namespace Hl
structure Sm where
 n : Nat
 es : List Nat
def Sm.fin (s : Sm) : Nat := s.n + s.es.length
def Sm.size (s : Sm) : Nat := s.es.getD (s.es.length - 1) 0
structure Lg where
 st : Nat
 over : Bool
 S : List Sm
structure LgOk (G : Lg) : Prop where
 few : G.S.length ≤ 1000
 seg : ∀ s ∈ G.S, s.fin ≤ 900 ∧ ∀ e ∈ s.es, e ≤ 100 * s.es.length
 st : G.st ≤ 1000000000
def state (D : Dk.St) (G : Lg) : Int := if G.over = true ∨ D.up = false ∨ D.starts ≠ G.st then 51 else 0
def Lg.hold (G : Lg) (e : Int) : Lg := { G with over := G.over || (e != 0 && e != 50) }
def lastS (G : Lg) : Sm := G.S.getLast?.getD ⟨0, []⟩
def syncL (G : Lg) (D : Dk.St) : Int × Dk.St := if G.S = [] then (0, D) else Dk.sync (nm (lastS G).n) D
theorem hold_zero (G : Lg) : G.hold 0 = G := by simp [Lg.hold]
theorem hold_ok {G : Lg} (h : LgOk G) (e : Int) : LgOk (G.hold e) := ⟨h.few, h.seg, h.st⟩
def nats (l : List Nat) : List Value := l.map fun n => Value.int .i64 (n : Nat)
def segsV (P : List (Sm × Value)) : List Value := P.flatMap fun p => [Value.int .i64 (p.1.n : Nat), p.2]
theorem segsV_len : ∀ P : List (Sm × Value), (segsV P).length = P.length * 2
 | [] => rfl
 | p :: r => by
  have := segsV_len r;unfold segsV at *;rw [List.flatMap_cons, List.length_append, this, List.length_cons];simp;omega
theorem segsV_at : ∀ (P : List (Sm × Value)) (i : Nat) (h : i < P.length), (segsV P)[2 * i]? = some (.int .i64 (P[i].1.n : Nat)) ∧ (segsV P)[2 * i + 1]? = some P[i].2
 | p :: r, 0, h => by unfold segsV; rw [List.flatMap_cons]; simp
 | p :: r, i + 1, h => by
  have := segsV_at r i (by simpa using h);unfold segsV at *;rw [List.flatMap_cons, show 2 * (i + 1) = 2 * i + 2 by omega, show 2 * i + 2 + 1 = (2 * i + 1) + 2 by omega];rw [List.getElem?_append_right (by simp), List.getElem?_append_right (by simp)];simp only [List.length_cons, List.length_nil, Nat.zero_add, Nat.reduceAdd, List.getElem_cons_succ];rw [show 2 * i + 2 - 2 = 2 * i by omega, show 2 * i + 1 + 2 - 2 = 2 * i + 1 by omega];exact this
theorem segsV_app (P Q : List (Sm × Value)) : segsV (P ++ Q) = segsV P ++ segsV Q := by unfold segsV; exact List.flatMap_append
theorem segsV_drop (P : List (Sm × Value)) : (segsV P).drop 2 = segsV (P.drop 1) := by
 cases P with
 | nil => rfl
 | cons p r => unfold segsV; rw [List.flatMap_cons]; rfl
end Hl
open Hl in
structure LgIn (B b d : Nat) (G : Hl.Lg) (vs : Value) (P : List (Hl.Sm × Value)) (w : World) : Prop where
 box : Bk #[.pointer (some ⟨d, 0, none⟩), .int .i64 (G.st : Nat), .bool G.over, vs] 48 w b
 row : Ofr B 88 2 vs P.length (Hl.segsV P) w
 seg : P.map (·.1) = G.S
 ends : ∀ p ∈ P, w.ownsRow B 3 1 p.2 p.1.es.length (Hl.nats p.1.es)
 apart : P.Pairwise (fun p q => ∀ g, p.2.ownBlock = some g → q.2.ownBlock ≠ some g)
 ok : Hl.LgOk G
 bB : B ≤ b
def LgF (b : Nat) (vs : Value) (P : List (Hl.Sm × Value)) (k : Nat) : Prop := k = b ∨ vs.ownBlock = some k ∨ ∃ p ∈ P, p.2.ownBlock = some k
section
variable {X : Nat → Prop} {B b d : Nat} {G : Hl.Lg} {D : Dk.St} {vs : Value} {P : List (Hl.Sm × Value)} {w w' : World}
theorem LgIn.wr {A : Nat → Prop} (h : LgIn B b d G vs P w) (hw : Wr A w w') (hA : ∀ k, LgF b vs P k → ¬ A k) : LgIn B b d G vs P w' :=
 ⟨h.box.wr hw (hA b (.inl rfl)), h.row.wr hw (fun q hq => hA q (.inr (.inl hq))), h.seg, fun p hp => Jal (h.ends p hp) hw (fun q hq => hA q (.inr (.inr ⟨p, hp, hq⟩))), h.apart, h.ok, h.bB⟩
theorem LgIn.below (h : LgIn B b d G vs P w) (hb : Below w.heap.size w w') : LgIn B b d G vs P w' := h.wr (A := fun _ => False) (Jad hb) (fun _ _ q => q)
theorem LgIn.lt (h : LgIn B b d G vs P w) : ∀ k, LgF b vs P k → B ≤ k ∧ k < w.heap.size := fun k hk => by
 rcases hk with rfl | q | ⟨p, hp, q⟩
 ·exact ⟨h.bB, h.box.lt⟩
 ·exact h.row.lt k q
 ·exact (h.ends p hp).lt k q
theorem LgIn.len (h : LgIn B b d G vs P w) : P.length = G.S.length := by rw [← h.seg, List.length_map]
def HgX (X : Nat → Prop) (B b d : Nat) (D : Dk.St) (G : Hl.Lg) (w : World) : Prop :=
 ∃ vs P, LgIn B b d G vs P w ∧ DkX (fun k => X k ∨ LgF b vs P k) B d D w ∧ (∀ k, LgF b vs P k → ¬ X k) ∧ Vr w ∧ 3 ≤ B
def HgO (X : Nat → Prop) (B b d : Nat) (r : Int × Dk.St × Hl.Lg) (w : World) (e : Ending) (w' : World) : Prop :=
 e = .returned (.int .i64 r.1) ∧ HgX X B b d r.2.1 r.2.2 w' ∧ Wr (fun k => B ≤ k ∧ ¬ X k) w w'
theorem HgX.below (h : HgX X B b d D G w) (hb : Below w.heap.size w w') : HgX X B b d D G w' := by
 obtain ⟨vs, P, h1, h2, h3, h4, h5⟩ := h;exact ⟨vs, P, h1.below hb, h2.below hb, h3, h4.below hb, h5⟩
theorem HgX.more {X' : Nat → Prop} (h : HgX X B b d D G w) (hX : ∀ k, X' k → X k ∨ w.heap.size ≤ k) : HgX X' B b d D G w := by
 obtain ⟨vs, P, h1, h2, h3, h4, h5⟩ := h;refine ⟨vs, P, h1, h2.more (fun k hk => ?_), fun k hk hx => ?_, h4, h5⟩
 ·rcases hk with q | q
  ·rcases hX k q with r | r
   ·exact .inl (.inl r)
   ·exact .inr r
  ·exact .inl (.inr q)
 ·rcases hX k hx with r | r
  ·exact h3 k hk r
  ·have := (h1.lt k hk).2; omega
theorem HgX.less {X' : Nat → Prop} (h : HgX X B b d D G w) (hX : ∀ k, X' k → X k) : HgX X' B b d D G w := h.more (fun k hk => .inl (hX k hk))
theorem HgX.newrow (h : HgX X B b d D G w) (hb : Below w.heap.size w w') : HgX (fun q => X q ∨ (w.heap.size ≤ q ∧ q < w'.heap.size)) B b d D G w' :=
 (h.more (fun k hk => by rcases hk with q | q; exact .inl q; exact .inr q.1)).below hb
theorem HgX.wr {A : Nat → Prop} (h : HgX X B b d D G w) (hw : Wr A w w') (hA : ∀ k, A k → X k ∧ 3 ≤ k) : HgX X B b d D G w' := by
 obtain ⟨vs, P, h1, h2, h3, h4, h5⟩ := h;exact ⟨vs, P, h1.wr hw (fun k hk ha => h3 k hk (hA k ha).1), h2.wr hw (fun k ha => .inl (hA k ha).1), h3, h4.wr hw (fun k hk ha => by have := (hA k ha).2; omega), h5⟩
theorem HgX.vr (h : HgX X B b d D G w) : Vr w := by obtain ⟨vs, P, h1, h2, h3, h4, h5⟩ := h; exact h4
theorem HgX.ok (h : HgX X B b d D G w) : Hl.LgOk G := by obtain ⟨vs, P, h1, h2, h3, h4, h5⟩ := h; exact h1.ok
end
theorem Joo (n : Nat) : Lib.itoa (n : Int) = Lib.decDigits n := by
 unfold Lib.itoa;rw [if_neg (by omega)];simp
theorem Jkq : ∀ (k u : Nat), u < 10 ^ (k + 1) → Lib.nDigits u ≤ k + 1
 | 0, u, h => by rw [Lib.nDigits_small (by simpa using h)]; exact Nat.le_refl _
 | k + 1, u, h => by
  by_cases q : u < 10
  ·rw [Lib.nDigits_small q]; omega
  ·have := Jkq k (u / 10) (by rw [Nat.pow_succ] at h; omega)
   rw [Lib.nDigits_big q]; omega
theorem Jb8 (n : Nat) (hn : n ≤ 1000000000) : (Lib.decDigits n).length ≤ 10 := by
 rw [Lib.decDigits_length];exact Jkq 9 n (by omega)
theorem Jhv (l : List UInt8) (n : Nat) (hn : n ≤ 1000000000) (hl : l.length ≤ 1000) (w : World) (hv : Vr w) :
  Calls Tryz.prog 126 #[.string (S l), .int .i64 (n : Nat)] w fun e w' => e = .returned (.string (S (l ++ Lib.decDigits n))) ∧ Below w.heap.size w w' := by
 have CI := Qh (Tryz.strconv_Itoa (n : Int) (by omega) (by omega) w hv.tab);have hdl := Jb8 n hn;rw [Joo] at CI;clear hv;go_enter Tryz.func126, Tryz.ntmps126;go_wp2_with fail;with_reducible refine CI.o.mono ?_
 rintro e w1 ⟨rfl, k, os, hw⟩;have HB := Qh (show Below w.heap.size w w1 from by rw [hw]; exact Lib.below_grow _ w (Nat.le_refl _) k os);clear hw CI;go_wp2_with fail;go_ret;exact ⟨by rfl, HB.o⟩
open Hl in
theorem Jbv (s : Sm) (v : Value) (hn : s.n ≤ 1000000000) (w : World) (hv : Vr w) :
  Calls Tryz.prog 73 #[.agg #[.int .i64 (s.n : Nat), v]] w fun e w' => e = .returned (.string (S (nm s.n))) ∧ Below w.heap.size w w' := by
 have CN := Qh (fun W (h : Vr W) => show Calls Tryz.prog 126 #[.string { data := #[108] }, .int .i64 (s.n : Nat)] W fun e w' => e = .returned (.string (S (nm s.n))) ∧ Below W.heap.size W w' from Jhv [108] s.n hn (by decide) W h);have HV := Qh hv;clear hv;generalize S (nm s.n) = N at *;go_enter Tryz.func73, Tryz.ntmps73;go_wp2_with fail;with_reducible refine (CN.o _ (HV.o.below (Qa _))).mono ?_
 rintro e w1 ⟨rfl, hb⟩;have HB := Qh hb;clear hb CN;go_wp2_with fail;go_ret;exact ⟨rfl, Jaa (Qa _) HB.o⟩
open Hl in
theorem Jey (s : Sm) (v : Value) (B : Nat) (w : World) (hr : w.ownsRow B 3 1 v s.es.length (nats s.es)) (hl : s.es.length ≤ 1000000) :
  Calls Tryz.prog 115 #[.agg #[.int .i64 (s.n : Nat), v]] w fun e w' => e = .returned (.int .i64 (s.size : Nat)) ∧ Below w.heap.size w w' := by
 obtain ⟨ao, cap, rfl⟩ := Jac hr;by_cases h0 : s.es.length = 0
 ·have d1 : decide (s.es.length = 0) = true := by simpa using h0
  have hz : s.size = 0 := by unfold Sm.size; rw [List.getD]; simp [List.length_eq_zero_iff.1 h0]
  rw [hz];clear hr hz;generalize s.es.length = L at *;subst h0;go_enter Tryz.func115, Tryz.ntmps115;go_wp2_with fail;go_ret;exact ⟨rfl, Qa _⟩
 ·obtain ⟨g, o, cap', he, h1, h2, h3, h4, h5, h6⟩ := (Jak hr).shape (by omega)
  simp only [Value.slice.injEq, true_and] at he;obtain ⟨rfl, rfl⟩ := he
  have c0 : ∀ o', (w.alloc o').cell? ⟨g, o + (s.es.length - 1), none⟩ = some (.int .i64 (s.size : Nat)) := fun o' => by
   have := h3 (s.es.length - 1) (by omega);rw [World.cell?_of_block (a := ⟨g, o + (s.es.length - 1), none⟩) (((Below.refl _ _).alloc (Nat.le_refl w.heap.size) o').block g h6), this];unfold nats Sm.size;rw [List.getElem?_map, List.getElem?_eq_getElem (by omega)];simp [List.getD, show s.es.length - 1 < s.es.length by omega]
  have d1 : decide (s.es.length = 0) = false := by simpa using h0
  clear hr h3 h4;generalize s.size = Z at *;generalize s.es.length = L at *;go_enter Tryz.func115, Tryz.ntmps115;go_wp2_with fail;go_ret;exact ⟨rfl, Qa _⟩
end
section
open Go Go.RowKit Go.Maps
section
variable {X : Nat → Prop} {B b d : Nat} {G : Hl.Lg} {D : Dk.St} {vs : Value} {P : List (Hl.Sm × Value)} {w w' : World}
open Hl
theorem Jli (C : Array Value) (T : TypeId) (h : DkX X B d D w) (st : Nat) (ov : Bool) (hb : Bk C T w b) (h0 : C[0]? = some (.pointer (some ⟨d, 0, none⟩))) (h1 : C[1]? = some (.int .i64 (st : Nat))) (h2 : C[2]? = some (.bool ov)) (r : Int) (hr : r = if ov = true ∨ D.up = false ∨ D.starts ≠ st then 51 else 0) :
  Calls Tryz.prog 110 #[.pointer (some ⟨b, 0, none⟩)] w fun e w' => e = .returned (.int .i64 r) ∧ Below w.heap.size w w' := by
 have c0 : w.cell? ⟨b, 0, none⟩ = some (.pointer (some ⟨d, 0, none⟩)) := by rw [hb.cell]; exact h0
 have c1 : w.cell? ⟨b, 1, none⟩ = some (.int .i64 (st : Nat)) := by rw [hb.cell]; exact h1
 have c2 : w.cell? ⟨b, 2, none⟩ = some (.bool ov) := by rw [hb.cell]; exact h2
 have CU := Qh (show ∀ q, Calls Tryz.prog 30 #[.pointer (some ⟨d, 0, none⟩)] (w.drewN q) fun e w' => e = .returned (.bool D.up) ∧ ∃ j, w' = w.drewN j from fun q => (upX (h.below (below_drewN (Below.refl _ _) q))).mono fun e w' k => ⟨k.1, q, k.2.symm⟩);have CS := Qh (show ∀ q, Calls Tryz.prog 106 #[.pointer (some ⟨d, 0, none⟩)] (w.drewN q) fun e w' => e = .returned (.int .i64 (D.starts : Nat)) ∧ ∃ j, w' = w.drewN j from fun q => (Jgj (h.below (below_drewN (Below.refl _ _) q))).mono fun e w' k => ⟨k.1, q, k.2.symm⟩);have HR := Qh hr;clear h hb h0 h1 h2 hr;generalize D.up = up at *;generalize D.starts = ds at *;cases ov with
 | true =>
  go_enter Tryz.func110, Tryz.ntmps110;go_wp2_with fail;go_quiet (fail)
  go_wp2_with fail;go_ret;exact ⟨by rw [HR.o]; simp, below_drewN (Below.refl _ _) _⟩
 | false =>
  cases up with
  | false =>
   go_enter Tryz.func110, Tryz.ntmps110;go_wp2_with fail;go_quiet ((go_at_call 30; exact CU.o _))
   go_wp2_with fail;go_ret;exact ⟨by rw [HR.o]; simp, below_drewN (Below.refl _ _) _⟩
  | true =>
   by_cases hs : ds = st
   ·have d1 : ((ds : Int) != (st : Int)) = false := by simp [hs]
    go_enter Tryz.func110, Tryz.ntmps110;go_wp2_with fail;go_quiet (first | (go_at_call 30; exact CU.o _) | (go_at_call 106; exact CS.o _))
    go_wp2_with fail;go_ret;exact ⟨by rw [HR.o]; simp [hs], below_drewN (Below.refl _ _) _⟩
   ·have d1 : ((ds : Int) != (st : Int)) = true := by simpa using fun e => hs (by omega)
    go_enter Tryz.func110, Tryz.ntmps110;go_wp2_with fail;go_quiet (first | (go_at_call 30; exact CU.o _) | (go_at_call 106; exact CS.o _))
    go_wp2_with fail;go_ret;exact ⟨by rw [HR.o]; simp [hs], below_drewN (Below.refl _ _) _⟩
theorem Jm0 (h : LgIn B b d G vs P w) (hd : DkX X B d D w) : Calls Tryz.prog 55 #[.pointer (some ⟨b, 0, none⟩)] w fun e w' => e = .returned (.int .i64 (Hl.state D G)) ∧ Below w.heap.size w w' := by
 have CH := Qh (show Calls Tryz.prog 110 #[.pointer (some ⟨b, 0, none⟩)] w fun e w' => e = .returned (.int .i64 (Hl.state D G)) ∧ Below w.heap.size w w' from Jli _ _ hd G.st G.over h.box rfl rfl rfl _ rfl);clear h hd;generalize Hl.state D G = Z at *;go_enter Tryz.func55, Tryz.ntmps55;go_wp2_with fail;with_reducible refine CH.o.mono ?_
 rintro e w1 ⟨rfl, hb⟩;have HB := Qh hb;clear hb CH;go_wp2_with fail;go_ret;exact ⟨rfl, HB.o⟩
theorem Jay (h : HgX X B b d D G w) : Calls Tryz.prog 55 #[.pointer (some ⟨b, 0, none⟩)] w fun e w' => e = .returned (.int .i64 (Hl.state D G)) ∧ Below w.heap.size w w' := by
 obtain ⟨vs, P, h1, h2, h3, h4, h5⟩ := h;exact Jm0 h1 h2
theorem Jch {g o n cap : Nat} (h : Bk #[.pointer (some ⟨d, 0, none⟩), .int .i64 (G.st : Nat), .bool G.over, .slice (some ⟨g, o, none⟩) (n + 1) cap] 48 w b) (hn : n ≤ 1000000) (hc : n + 1 ≤ cap) :
  Calls Tryz.prog 69 #[.pointer (some ⟨b, 0, none⟩)] w fun e w' => e = .returned (.pointer (some ⟨g, o + n * 2, none⟩)) ∧ Below w.heap.size w w' := by
 have c0 : w.cell? ⟨b, 3, none⟩ = some (.slice (some ⟨g, o, none⟩) (n + 1) cap) := h.cell 3;clear h;go_enter Tryz.func69, Tryz.ntmps69;go_wp2_with fail;go_quiet (fail)
 go_wp2_with fail;go_ret;exact ⟨rfl, below_drewN (Below.refl _ _) _⟩
end
def fnV6 (f : Nat × Array Value × Array Value) : Value := .func (Fn.func f.1) f.2.1 f.2.2
theorem Jc7 (fs : List (Nat × Array Value × Array Value)) (g cap : Nat) (R : Nat → World → Prop) (Q : Int → World → Prop) (w : World) (h0 : R 0 w)
  (hc : ∀ i w, R i w → ∀ j (hj : j < fs.length), w.cell? ⟨g, j, none⟩ = some (fnV6 fs[j]))
  (hs : ∀ i (hi : i < fs.length) w, R i w → Calls Tryz.prog fs[i].1 (fs[i].2.1 ++ fs[i].2.2) w fun e w' => ∃ v : Int, e = .returned (.int .i64 v) ∧ (v = 0 → R (i + 1) w') ∧ (v ≠ 0 → Q v w')) (hl : fs.length ≤ 1000) (hin : ∀ i (hi : i < fs.length), Jdn fs[i].1) :
  Calls Tryz.prog 156 #[.slice (some ⟨g, 0, none⟩) fs.length cap] w fun e w' => ∃ v : Int, e = .returned (.int .i64 v) ∧ (v = 0 → R fs.length w') ∧ (v ≠ 0 → Q v w') := by
 have HC := Qh hc;have HS := Qh hs;have H0 := Qh h0;clear hc hs h0;go_enter Tryz.func156, Tryz.ntmps156;go_wp2_with fail;go_loopw [8] (fun v wr => ∃ i : Nat, i ≤ fs.length ∧ v = .int .i64 i ∧ Hid (R i wr)) (fun v _ => fs.length - (intOf v).toNat)
 case atStart => exact ⟨0, Nat.zero_le _, rfl, H0⟩
 case round =>
  clear H0;obtain ⟨w3, rfl⟩ : ∃ x, x = wr := ⟨_, rfl⟩
  obtain ⟨i, hi, rfl, HR⟩ := hrel;by_cases hlt : i < fs.length
  ·have d1 : decide (i < fs.length) = true := by simpa using hlt
   have CC := Qh (HS.o i hlt w3 HR.o);have c0 : w3.cell? ⟨g, i, none⟩ = some (.func (Fn.func fs[i].1) fs[i].2.1 fs[i].2.2) := HC.o i w3 HR.o i hlt;have hen := hin i hlt;generalize fs[i].1 = f at *;generalize fs[i].2.1 = A at *;generalize fs[i].2.2 = C at *;have hen2 := hen (A ++ C);clear hen;go_wp2_with fail;with_reducible refine CC.o.mono ?_
   rintro e w4 ⟨v, rfl, h1, h2⟩;have H1 := Qh h1;have H2 := Qh h2;clear h1 h2 CC c0;by_cases hv : v = 0
   ·subst hv
    go_wp2_with fail;go_roundw
    case rel => exact ⟨i + 1, by omega, by go_num, Qh (H1.o trivial)⟩
    case measure => simp [intOf]; omega
   ·have dv : (v != 0) = true := by simpa using hv
    go_wp2_with fail;go_ret;exact ⟨v, rfl, fun q => absurd q hv, H2.o⟩
  ·have d1 : decide (i < fs.length) = false := by simpa using hlt
   obtain rfl : i = fs.length := by omega
   go_wp2_with fail;go_ret;exact ⟨0, rfl, fun _ => HR.o, fun q => absurd rfl q⟩
end
section
open Go Go.RowKit Go.Maps
section
variable {X : Nat → Prop} {B b d : Nat} {G : Hl.Lg} {D : Dk.St} {vs : Value} {P : List (Hl.Sm × Value)} {w w' : World}
open Hl
theorem Jam {A : Nat → Prop} {a : Addr} {v : Value} (h : w.cell? a = some v) (hw : Wr A w w') (hA : ¬ A a.block) : w'.cell? a = some v := by
 rw [← h];exact World.cell?_of_block (hw.block _ (World.block_lt_of_cell? w a h) hA)
theorem Jab {a : Addr} {v : Value} (h : w.cell? a = some v) (hb : Below w.heap.size w w') : w'.cell? a = some v := Jam (A := fun _ => False) h (Jad hb) (fun q => q)
theorem lay1_6 (h : DkX X B d D w) (hX : ∀ k, X k → k < w.heap.size) (hB : B ≤ w.heap.size) (hv : Vr w) {b1 b2 b3 g q : Nat} (y1 : X b1) (y2 : X b2) (y3 : X b3) (y4 : X b) (y5 : X g) (s : Sm) (v : Value) (f : List UInt8)
  (c1 : w.cell? ⟨b1, 0, none⟩ = some (.pointer (some ⟨b, 0, none⟩))) (c2 : w.cell? ⟨b2, 0, none⟩ = some (.pointer (some ⟨g, q, none⟩))) (c3 : w.cell? ⟨b3, 0, none⟩ = some (.string (S f))) (c4 : w.cell? ⟨b, 0, none⟩ = some (.pointer (some ⟨d, 0, none⟩)))
  (c5 : w.cell? ⟨g, q, none⟩ = some (.int .i64 (s.n : Nat))) (c6 : w.cell? ⟨g, q + 1, none⟩ = some v) (hn : s.n ≤ 1000) (hf : f.length ≤ 100000) :
  Calls Tryz.prog 124 #[.pointer (some ⟨b1, 0, none⟩), .pointer (some ⟨b2, 0, none⟩), .pointer (some ⟨b3, 0, none⟩)] w (OpX X B d (Dk.append (nm s.n) f D) w) := by
 have CN := Qh (fun W (k : Vr W) => Jbv s v (by omega) W k);have hnl : (nm s.n).length ≤ 11 := by unfold nm; rw [List.length_cons]; have := Jb8 s.n (by omega); omega
 have CA := Qh (fun W (k : Below w.heap.size w W) => show Calls Tryz.prog 123 #[.pointer (some ⟨d, 0, none⟩), .string (S (nm s.n)), .string (S f)] W (OpX X B d (Dk.append (nm s.n) f D) W) from Jgi (h.below k) (fun x hx => Nat.lt_of_lt_of_le (hX x hx) k.size) (Nat.le_trans hB k.size) (nm s.n) f (by omega) (by omega));have HK := Qh (show ∀ (W W' : World) (r : Int × Dk.St) (e : Ending) (a : Addr) (u : Value), OpX X B d r W e W' → W.cell? a = some u → X a.block → W'.cell? a = some u from fun W W' r e a u ho hc hx => Jam hc ho.2.2 (fun z => z.2 hx));have HV := Qh hv;have HB := Qh hB;have Y1 := Qh y1;have Y2 := Qh y2;have Y3 := Qh y3;have Y4 := Qh y4;have Y5 := Qh y5;have C1 := Qh c1;have C2 := Qh c2;have C3 := Qh c3;have C4 := Qh c4;have C5 := Qh c5;have C6 := Qh c6;clear h hX hB hv y1 y2 y3 y4 y5 hn hf hnl;generalize S (nm s.n) = N at *;generalize Dk.append (nm s.n) f D = r at *;generalize s.n = sn at *;go_enter Tryz.func124, Tryz.ntmps124;go_wp2_with fail
 go_region_held3 (fun W => W.cell? ⟨b1, 0, none⟩ = some (.pointer (some ⟨b, 0, none⟩)) ∧ W.cell? ⟨b2, 0, none⟩ = some (.pointer (some ⟨g, q, none⟩)) ∧ W.cell? ⟨b3, 0, none⟩ = some (.string (S f)) ∧ W.cell? ⟨b, 0, none⟩ = some (.pointer (some ⟨d, 0, none⟩)) ∧ W.cell? ⟨g, q, none⟩ = some (.int .i64 (sn : Nat)) ∧ W.cell? ⟨g, q + 1, none⟩ = some v) (go_keep) (first
  | (go_at_call 73; refine (CN.o _ (HV.o.below ((Below.refl _ w).drew))).mono ?_; rintro e w3 ⟨rfl, hb3⟩; have HB3 := Qh (Jaa ((Below.refl w.heap.size w).drew) hb3); clear hb3; have z1 := Jab C1.o HB3.o; have z2 := Jab C2.o HB3.o; have z3 := Jab C3.o HB3.o; have z4 := Jab C4.o HB3.o; have z5 := Jab C5.o HB3.o; have z6 := Jab C6.o HB3.o)
  | (go_at_call 123; refine (CA.o _ HB3.o).mono ?_; rintro e w4 ho; have HO := Qh ho; obtain ⟨rfl, -⟩ := ho; have x1 := HK.o _ _ _ _ _ _ HO.o z1 Y1.o; have x2 := HK.o _ _ _ _ _ _ HO.o z2 Y2.o; have x3 := HK.o _ _ _ _ _ _ HO.o z3 Y3.o; have x4 := HK.o _ _ _ _ _ _ HO.o z4 Y4.o; have x5 := HK.o _ _ _ _ _ _ HO.o z5 Y5.o; have x6 := HK.o _ _ _ _ _ _ HO.o z6 Y5.o))
 go_wp2_with fail;go_ret;exact ⟨rfl, HO.o.2.1, (Jad HB3.o).trans HO.o.2.2⟩
theorem Jop (h : DkX X B d D w) (hX : ∀ k, X k → k < w.heap.size) (hB : B ≤ w.heap.size) (hv : Vr w) {b1 b2 b3 : Nat} (y1 : X b1) (y2 : X b2) (y3 : X b3) (y4 : X b) (s : Sm) (v : Value) (f : List UInt8)
  (c1 : w.cell? ⟨b1, 0, none⟩ = some (.pointer (some ⟨b, 0, none⟩))) (c2 : w.cell? ⟨b2, 0, none⟩ = some (.int .i64 (s.n : Nat))) (c3 : w.cell? ⟨b3, 0, none⟩ = some (.string (S f))) (c4 : w.cell? ⟨b, 0, none⟩ = some (.pointer (some ⟨d, 0, none⟩)))
  (c5 : w.cell? ⟨b2, 1, none⟩ = some v) (hn : s.n ≤ 1000) (hf : f.length ≤ 100000) :
  Calls Tryz.prog 122 #[.pointer (some ⟨b1, 0, none⟩), .pointer (some ⟨b2, 0, none⟩), .pointer (some ⟨b3, 0, none⟩)] w (OpX X B d (Dk.append (nm s.n) f D) w) := by
 have CN := Qh (fun W (k : Vr W) => Jbv s v (by omega) W k);have hnl : (nm s.n).length ≤ 11 := by unfold nm; rw [List.length_cons]; have := Jb8 s.n (by omega); omega
 have CA := Qh (fun W (k : Below w.heap.size w W) => show Calls Tryz.prog 123 #[.pointer (some ⟨d, 0, none⟩), .string (S (nm s.n)), .string (S f)] W (OpX X B d (Dk.append (nm s.n) f D) W) from Jgi (h.below k) (fun x hx => Nat.lt_of_lt_of_le (hX x hx) k.size) (Nat.le_trans hB k.size) (nm s.n) f (by omega) (by omega));have HK := Qh (show ∀ (W W' : World) (r : Int × Dk.St) (e : Ending) (a : Addr) (u : Value), OpX X B d r W e W' → W.cell? a = some u → X a.block → W'.cell? a = some u from fun W W' r e a u ho hc hx => Jam hc ho.2.2 (fun z => z.2 hx));have HV := Qh hv;have HB := Qh hB;have Y1 := Qh y1;have Y2 := Qh y2;have Y3 := Qh y3;have Y4 := Qh y4;have C1 := Qh c1;have C2 := Qh c2;have C3 := Qh c3;have C4 := Qh c4;have C5 := Qh c5;clear h hX hB hv y1 y2 y3 y4 hn hf hnl;generalize S (nm s.n) = N at *;generalize Dk.append (nm s.n) f D = r at *;generalize s.n = sn at *;go_enter Tryz.func122, Tryz.ntmps122;go_wp2_with fail
 go_region_held3 (fun W => W.cell? ⟨b1, 0, none⟩ = some (.pointer (some ⟨b, 0, none⟩)) ∧ W.cell? ⟨b2, 0, none⟩ = some (.int .i64 (sn : Nat)) ∧ W.cell? ⟨b3, 0, none⟩ = some (.string (S f)) ∧ W.cell? ⟨b, 0, none⟩ = some (.pointer (some ⟨d, 0, none⟩)) ∧ W.cell? ⟨b2, 1, none⟩ = some v) (go_keep) (first
  | (go_at_call 73; refine (CN.o _ (HV.o.below ((Below.refl _ w).drew))).mono ?_; rintro e w3 ⟨rfl, hb3⟩; have HB3 := Qh (Jaa ((Below.refl w.heap.size w).drew) hb3); clear hb3; have z1 := Jab C1.o HB3.o; have z2 := Jab C2.o HB3.o; have z3 := Jab C3.o HB3.o; have z4 := Jab C4.o HB3.o; have z5 := Jab C5.o HB3.o)
  | (go_at_call 123; refine (CA.o _ HB3.o).mono ?_; rintro e w4 ho; have HO := Qh ho; obtain ⟨rfl, -⟩ := ho; have x1 := HK.o _ _ _ _ _ _ HO.o z1 Y1.o; have x2 := HK.o _ _ _ _ _ _ HO.o z2 Y2.o; have x3 := HK.o _ _ _ _ _ _ HO.o z3 Y3.o; have x4 := HK.o _ _ _ _ _ _ HO.o z4 Y4.o; have x5 := HK.o _ _ _ _ _ _ HO.o z5 Y2.o))
 go_wp2_with fail;go_ret;exact ⟨rfl, HO.o.2.1, (Jad HB3.o).trans HO.o.2.2⟩
theorem Ji4 {G : Lg} {m : Nat} (h : G.S.length = m + 1) : G.S[m]'(by omega) = lastS G := by
 unfold lastS;have e : G.S.length - 1 = m := by omega
 rw [List.getLast?_eq_getElem?];simp only [e];rw [List.getElem?_eq_getElem (by omega)];rfl
theorem Jm1 {G : Lg} (h : G.S ≠ []) : lastS G ∈ G.S := by
 have hp : 0 < G.S.length := List.length_pos_iff.2 h;rw [← Ji4 (m := G.S.length - 1) (by omega)];exact List.getElem_mem _
theorem LgIn.lastc (h : LgIn B b d G vs P w) {m : Nat} (hm : P.length = m + 1) : ∃ g o cap v, vs = .slice (some ⟨g, o, none⟩) (m + 1) cap ∧ m + 1 ≤ cap ∧ cap ≤ maxLen ∧ w.cell? ⟨g, o + m * 2, none⟩ = some (.int .i64 ((lastS G).n : Nat)) ∧ w.cell? ⟨g, o + m * 2 + 1, none⟩ = some v ∧ P[m]? = some (lastS G, v) ∧ LgF b vs P g := by
 obtain ⟨g, o, cap, hv, h1, h2, h3, h4, h5, h6⟩ := h.row.shape (by omega);have hl := h.len
 have e1 : P[m].1 = lastS G := by
  rw [← Ji4 (G := G) (m := m) (by omega)];simp only [← h.seg, List.getElem_map]
 have ha := segsV_at P m (by omega);rw [hm] at hv h1;refine ⟨g, o, cap, P[m].2, hv, h1, h2, ?_, ?_, ?_, .inr (.inl (by rw [hv]; rfl))⟩
 ·rw [h3 (m * 2) (by omega), Nat.mul_comm m 2, ha.1, e1]
 ·rw [Nat.add_assoc, h3 (m * 2 + 1) (by omega), Nat.mul_comm m 2, ha.2]
 ·rw [List.getElem?_eq_getElem (by omega), ← e1]
theorem LgIn.cell0 (h : LgIn B b d G vs P w) : w.cell? ⟨b, 0, none⟩ = some (.pointer (some ⟨d, 0, none⟩)) := h.box.cell 0
theorem LgIn.cell3 (h : LgIn B b d G vs P w) : w.cell? ⟨b, 3, none⟩ = some vs := h.box.cell 3
theorem Jdo {G : Lg} (h : LgOk G) (hn : G.S ≠ []) : (lastS G).fin ≤ 900 ∧ ∀ e ∈ (lastS G).es, e ≤ 100 * (lastS G).es.length := h.seg _ (Jm1 hn)
theorem Jhe (hL : LgIn B b d G vs P w) (h : DkX X B d D w) (hX : ∀ k, X k → k < w.heap.size) (hB : B ≤ w.heap.size) (hv : Vr w) (hF : ∀ k, LgF b vs P k → X k) :
  Calls Tryz.prog 72 #[.pointer (some ⟨b, 0, none⟩)] w (OpX X B d (syncL G D) w) := by
 have hlen := hL.len;by_cases h0 : G.S = []
 ·have he : syncL G D = (0, D) := if_pos h0
  rw [he];have hp : P.length = 0 := by rw [hlen, h0]; rfl
  obtain ⟨ao, cap, rfl, _⟩ := hL.row.val;have c3 : w.cell? ⟨b, 3, none⟩ = some (.slice ao P.length cap) := hL.cell3;rw [hp] at c3;have HF := Qh (show OpX X B d (0, D) w (.returned (.int .i64 0)) w from ⟨rfl, h, Wr.refl _ _⟩);clear hL h hX hB hv hF hlen h0 he hp;go_enter Tryz.func72, Tryz.ntmps72;go_wp2_with fail;go_ret;exact HF.o
 ·have he : syncL G D = Dk.sync (nm (lastS G).n) D := if_neg h0
  rw [he];obtain ⟨m, hm⟩ : ∃ m, P.length = m + 1 := ⟨P.length - 1, by have := List.length_pos_iff.2 h0; omega⟩
  obtain ⟨g, o, cap, v, hvs, q1, q2, q3, q4, q5, q6⟩ := hL.lastc hm;have hlo := (Jdo hL.ok h0).1;have hfew := hL.ok.few;unfold Sm.fin at hlo;have hc3 : w.cell? ⟨b, 3, none⟩ = some (.slice (some ⟨g, o, none⟩) (m + 1) cap) := by rw [hL.cell3, hvs]
  have hbx := hL.box;rw [hvs] at hbx;have CL := Qh (fun W (k : Below w.heap.size w W) => Jch (G := G) (hbx.below k) (by omega) q1);have CN := Qh (fun W (k : Vr W) => Jbv (lastS G) v (by omega) W k);have hnl : (nm (lastS G).n).length ≤ 11 := by unfold nm; rw [List.length_cons]; have := Jb8 (lastS G).n (by omega); omega
  have CA := Qh (fun W (k : Below w.heap.size w W) => show Calls Tryz.prog 125 #[.pointer (some ⟨d, 0, none⟩), .string (S (nm (lastS G).n))] W (OpX X B d (Dk.sync (nm (lastS G).n) D) W) from syncX (h.below k) (fun x hx => Nat.lt_of_lt_of_le (hX x hx) k.size) (Nat.le_trans hB k.size) (nm (lastS G).n) (by omega));have HK := Qh (show ∀ (W W' : World) (r : Int × Dk.St) (e : Ending) (a : Addr) (u : Value), OpX X B d r W e W' → W.cell? a = some u → X a.block → W'.cell? a = some u from fun W W' r e a u ho hc hx => Jam hc ho.2.2 (fun z => z.2 hx));have HV := Qh hv;have Y4 := Qh (hF b (.inl rfl));have Y5 := Qh (hF g q6);have C3 := Qh hc3;have C4 := Qh hL.cell0;have C5 := Qh q3;have C6 := Qh q4;have c3 := hc3;have c4 := hL.cell0;clear hL h hX hB hv hF hlen h0 he hm hvs q1 q2 q5 q6 hlo hfew hc3 hbx hnl;generalize S (nm (lastS G).n) = N at *;generalize Dk.sync (nm (lastS G).n) D = r at *;generalize (lastS G).n = sn at *;have hne : ((m : Int) + 1 == 0) = false := by simp; omega
  go_enter Tryz.func72, Tryz.ntmps72;go_wp2_with fail
  go_region_held3 (fun W => W.cell? ⟨b, 0, none⟩ = some (.pointer (some ⟨d, 0, none⟩)) ∧ W.cell? ⟨g, o + m * 2, none⟩ = some (.int .i64 (sn : Nat)) ∧ W.cell? ⟨g, o + m * 2 + 1, none⟩ = some v) (go_keep) (first
   | (go_at_call 69; refine (CL.o _ ((Below.refl _ w).drew)).mono ?_; rintro e w2 ⟨rfl, hb2⟩; have HB2 := Qh (Jaa ((Below.refl w.heap.size w).drew) hb2); clear hb2; have u4 := Jab C4.o HB2.o; have u5 := Jab C5.o HB2.o; have u6 := Jab C6.o HB2.o)
   | (go_at_call 73; refine (CN.o _ (HV.o.below HB2.o)).mono ?_; rintro e w3 ⟨rfl, hb3⟩; have HB3 := Qh (Jaa HB2.o hb3); clear hb3; have z4 := Jab C4.o HB3.o; have z5 := Jab C5.o HB3.o; have z6 := Jab C6.o HB3.o)
   | (go_at_call 125; refine (CA.o _ HB3.o).mono ?_; rintro e w4 ho; have HO := Qh ho; obtain ⟨rfl, -⟩ := ho; have x4 := HK.o _ _ _ _ _ _ HO.o z4 Y4.o; have x5 := HK.o _ _ _ _ _ _ HO.o z5 Y5.o; have x6 := HK.o _ _ _ _ _ _ HO.o z6 Y5.o))
  go_wp2_with fail;go_ret;exact ⟨rfl, HO.o.2.1, (Jad HB3.o).trans HO.o.2.2⟩
end
end
section
open Go Go.RowKit Go.Maps
section
variable {X : Nat → Prop} {B b d : Nat} {G : Hl.Lg} {D : Dk.St} {vs : Value} {P : List (Hl.Sm × Value)} {w w' : World}
open Hl
def ovW (b : Nat) (v : Int) (w : World) : World := if (v != 0 && v != 50) = true then w.setCell ⟨b, 2, none⟩ (.bool true) else w
theorem Jp2 (sl : Value) (M : Int → World → Prop) (h : Calls Tryz.prog 156 #[sl] w fun e w' => ∃ v : Int, e = .returned (.int .i64 v) ∧ M v w') (hb : ∀ v w', M v w' → ∃ C T, Bk C T w' b ∧ 2 < C.size) :
  Calls Tryz.prog 116 #[.pointer (some ⟨b, 0, none⟩), sl] w fun e w' => ∃ (v : Int) (w1 : World), e = .returned (.int .i64 v) ∧ M v w1 ∧ w' = ovW b v w1 := by
 have CR := Qh h;have HB := Qh hb;clear h hb;go_enter Tryz.func116, Tryz.ntmps116;go_wp2_with fail;with_reducible refine CR.o.mono ?_
 rintro e w1 ⟨v, rfl, hm⟩;have HM := Qh hm;obtain ⟨C, T, hk, hc⟩ := HB.o v w1 hm;have f0 := hk.free 2;obtain ⟨c, hc0⟩ : ∃ c, w1.cell? ⟨b, 2, none⟩ = some c := ⟨C[2], by rw [hk.cell]; simp [hc]⟩
 clear hm hk hc CR;by_cases hv : v = 0
 ·have HW := Qh (show w1 = ovW b v w1 from by unfold ovW; rw [if_neg (by simp [hv])])
  subst hv;go_wp2_with fail;go_ret;exact ⟨0, w1, rfl, HM.o, HW.o⟩
 ·have d1 : (v != 0) = true := by simpa using hv
  by_cases hv2 : v = 50
  ·have HW := Qh (show w1 = ovW b v w1 from by unfold ovW; rw [if_neg (by simp [hv2])])
   subst hv2;go_wp2_with fail;go_ret;exact ⟨50, w1, rfl, HM.o, HW.o⟩
  ·have HW := Qh (show w1.setCell ⟨b, 2, none⟩ (.bool true) = ovW b v w1 from by unfold ovW; rw [if_pos (by simp [hv, hv2])])
   have d2 : (v != 50) = true := by simpa using hv2
   go_wp2_with fail;go_ret;exact ⟨v, w1, rfl, HM.o, HW.o⟩
theorem Jgr (sl : Value) (M : Int → World → Prop) (h : Calls Tryz.prog 156 #[sl] w fun e w' => ∃ v : Int, e = .returned (.int .i64 v) ∧ M v w') (hb : ∀ v w', M v w' → ∃ C T, Bk C T w' b ∧ 2 < C.size) :
  Calls Tryz.prog 61 #[.pointer (some ⟨b, 0, none⟩), sl] w fun e w' => ∃ (v : Int) (w1 : World), e = .returned (.int .i64 v) ∧ M v w1 ∧ w' = ovW b v w1 := by
 have CR := Qh (Jp2 sl M h hb);clear h hb;go_enter Tryz.func61, Tryz.ntmps61;go_wp2_with fail;with_reducible refine CR.o.mono ?_
 rintro e w1 ⟨v, w2, rfl, hm⟩;have HM := Qh hm;clear hm CR;go_wp2_with fail;go_ret;exact ⟨v, w2, rfl, HM.o⟩
theorem LgIn.ovw (h : LgIn B b d G vs P w) (v : Int) : LgIn B b d (G.hold v) vs P (ovW b v w) ∧ Wr (fun k => k = b) w (ovW b v w) := by
 unfold ovW;cases hv : (v != 0 && v != 50) with
 | false =>
  rw [if_neg (by simp)];have e : G.hold v = G := by unfold Lg.hold; rw [hv, Bool.or_false]
  rw [e];exact ⟨h, Wr.refl _ _⟩
 | true =>
  rw [if_pos rfl];have hw := Jai (A := fun k => k = b) w ⟨b, 2, none⟩ (.bool true) rfl;have e : (G.hold v).over = true := by unfold Lg.hold; rw [hv, Bool.or_true]
  refine ⟨⟨?_, h.row.wr hw (fun q hq => h.row.ne h.box (by decide) q hq), h.seg, fun p hp => Jal (h.ends p hp) hw (fun q hq => (Jak (h.ends p hp)).ne h.box (by decide) q hq), h.apart, hold_ok h.ok v, h.bB⟩, hw⟩;have := h.box.set 2 (.bool true);rw [e];exact this
def RwL6 (X : Nat → Prop) (B b d : Nat) (G : Hl.Lg) (vs : Value) (P : List (Hl.Sm × Value)) (r : Int × Dk.St) (w : World) (e : Ending) (w' : World) : Prop :=
 e = .returned (.int .i64 r.1) ∧ LgIn B b d (G.hold r.1) vs P w' ∧ DkX X B d r.2 w' ∧ Vr w' ∧ Wr (fun k => k = b ∨ (B ≤ k ∧ ¬ X k)) w w'
theorem Jed (fs : List (Nat × Array Value × Array Value)) (g cap : Nat) (acts : List (Dk.St → Int × Dk.St)) (hl : acts.length = fs.length) (h63 : fs.length ≤ 1000)
  (hL : LgIn B b d G vs P w) (h : DkX X B d D w) (hX : ∀ k, X k → k < w.heap.size) (hB : B ≤ w.heap.size) (hv : Vr w) (hF : ∀ k, LgF b vs P k → X k) (h3 : 3 ≤ B) (hg : X g)
  (hc : ∀ j (hj : j < fs.length), w.cell? ⟨g, j, none⟩ = some (fnV6 fs[j])) (hin : ∀ i (hi : i < fs.length), Jdn fs[i].1)
  (hs : ∀ i (hi : i < fs.length) (hi' : i < acts.length) D' w', DkX X B d D' w' → LgIn B b d G vs P w' → Vr w' → Wr (fun k => B ≤ k ∧ ¬ X k) w w' → Calls Tryz.prog fs[i].1 (fs[i].2.1 ++ fs[i].2.2) w' (OpX X B d (acts[i] D') w')) :
  Calls Tryz.prog 61 #[.pointer (some ⟨b, 0, none⟩), .slice (some ⟨g, 0, none⟩) fs.length cap] w (RwL6 X B b d G vs P (Dk.run acts D) w) := by
 have keepL : ∀ {w'}, Wr (fun k => B ≤ k ∧ ¬ X k) w w' → LgIn B b d G vs P w' := fun hw => hL.wr hw (fun k hk q => q.2 (hF k hk))
 have keepV : ∀ {w'}, Wr (fun k => B ≤ k ∧ ¬ X k) w w' → Vr w' := fun hw => hv.wr hw (fun k hk q => by omega)
 have key := Jc7 fs g cap (fun i w' => DkX X B d (Dk.run (acts.take i) D).2 w' ∧ (Dk.run (acts.take i) D).1 = 0 ∧ Wr (fun k => B ≤ k ∧ ¬ X k) w w') (fun v w' => OpX X B d (Dk.run acts D) w (.returned (.int .i64 v)) w') w ⟨by rw [List.take_zero]; exact h, by rw [List.take_zero]; rfl, Wr.refl _ _⟩
  (fun i w' ⟨_, _, hw⟩ j hj => Jam (hc j hj) hw (fun q => q.2 hg))
  (fun i hi w' ⟨h1, h2, hw⟩ => by
   have hi' : i < acts.length := by omega
   refine (hs i hi hi' _ w' h1 (keepL hw) (keepV hw) hw).mono ?_;rintro e w2 ⟨rfl, q2, q3⟩;have er : Dk.run (acts.take (i + 1)) D = acts[i] (Dk.run (acts.take i) D).2 := by rw [List.take_succ_eq_append_getElem hi', Dk.run_snoc, Dk.next_ok h2]
   refine ⟨_, rfl, fun hv => ⟨by rw [er]; exact q2, by rw [er]; exact hv, hw.trans q3⟩, fun hv => ?_⟩
   have ef : Dk.run acts D = acts[i] (Dk.run (acts.take i) D).2 := by
    have := Dk.run_fail (acts.take (i + 1)) (acts.drop (i + 1)) D (by rw [er]; exact hv);rw [List.take_append_drop] at this;rw [this, er]
   exact ⟨by rw [ef], by rw [ef]; exact q2, hw.trans q3⟩) h63 hin
 have key2 : Calls Tryz.prog 156 #[.slice (some ⟨g, 0, none⟩) fs.length cap] w fun e w' => ∃ v : Int, e = .returned (.int .i64 v) ∧ OpX X B d (Dk.run acts D) w (.returned (.int .i64 v)) w' := by
  refine key.mono ?_;rintro e w2 ⟨v, rfl, q1, q2⟩;refine ⟨v, rfl, ?_⟩;by_cases hv : v = 0
  ·subst hv
   obtain ⟨a, b, c⟩ := q1 rfl;rw [← hl, List.take_length] at a b;exact ⟨by rw [b], a, c⟩
  ·exact q2 hv
 refine (Jgr (b := b) _ (fun v w' => OpX X B d (Dk.run acts D) w (.returned (.int .i64 v)) w') key2 (fun v w' ho => ⟨_, _, (keepL ho.2.2).box, by show 2 < 4; decide⟩)).mono ?_;rintro e w2 ⟨v, w1, rfl, ho, rfl⟩;obtain ⟨o1, o2, o3⟩ := ho;simp only [Ending.returned.injEq, Value.int.injEq, true_and] at o1;subst o1;obtain ⟨k1, k2⟩ := (keepL o3).ovw (Dk.run acts D).1;refine ⟨rfl, k1, o2.wr k2 (fun k hk => by rw [hk]; exact hF b (.inl rfl)), (keepV o3).wr k2 (fun k hk q => by have := hL.bB; omega), ?_⟩;exact (o3.mono (fun k q => .inl (.inr q))).trans (k2.mono (fun k q => .inl (.inl q)))
end
end
section
open Go Go.RowKit Go.Maps
namespace Hl
def sync (G : Lg) (D : Dk.St) : Int × Dk.St × Lg := if state D G ≠ 0 then (state D G, D, G) else ((syncL G D).1, (syncL G D).2, G.hold (syncL G D).1)
end Hl
section
variable {X Y : Nat → Prop} {B b d : Nat} {G : Hl.Lg} {D : Dk.St} {vs : Value} {P : List (Hl.Sm × Value)} {w w' w1 : World}
open Hl
theorem Jcd (f : Dk.St → Int × Dk.St) (D : Dk.St) : Dk.run [f] D = f D := by
 show Dk.next_ (f D) (Dk.run []) = f D
 by_cases h : (f D).1 = 0
 ·rw [Dk.next_ok h]; exact Prod.ext h.symm rfl
 ·rw [Dk.next_no h]
theorem Jp3 {r : Int × Dk.St} {e : Ending} (hL : LgIn B b d G vs P w) (hN : ∀ k, LgF b vs P k → ¬ X k) (h3 : 3 ≤ B) (hB : B ≤ w.heap.size) (hb : Below w.heap.size w w1) (hY : ∀ k, X k ∨ LgF b vs P k → Y k) (ho : RwL6 Y B b d G vs P r w1 e w') :
  HgO X B b d (r.1, r.2, G.hold r.1) w e w' := by
 obtain ⟨o1, o2, o3, o4, o5⟩ := ho;refine ⟨o1, ⟨vs, P, o2, o3.less hY, hN, o4, h3⟩, (Jad hb).step o5 (fun x hx => ?_)⟩;rcases hx with rfl | ⟨q1, q2⟩
 ·exact .inl ⟨hL.bB, hN _ (.inl rfl)⟩
 ·exact .inl ⟨q1, fun q => q2 (hY x (.inl q))⟩
theorem Jcx {v : Int} (h : HgX X B b d D G w) (hb : Below w.heap.size w w') : HgO X B b d (v, D, G) w (.returned (.int .i64 v)) w' := ⟨rfl, h.below hb, Jad hb⟩
theorem Je8 (h : DkX (fun k => X k ∨ LgF b vs P k) B d D w) (hL : LgIn B b d G vs P w) (hX : ∀ k, X k → k < w.heap.size) (hb : Below w.heap.size w w1) :
  DkX (fun k => (X k ∨ LgF b vs P k) ∨ (w.heap.size ≤ k ∧ k < w1.heap.size)) B d D w1 ∧ (∀ k, ((X k ∨ LgF b vs P k) ∨ (w.heap.size ≤ k ∧ k < w1.heap.size)) → k < w1.heap.size) := by
 refine ⟨(h.more (fun k hk => by rcases hk with q | q; exact .inl q; exact .inr q.1)).below hb, fun k hk => ?_⟩;rcases hk with (q | q) | q
 ·exact Nat.lt_of_lt_of_le (hX k q) hb.size
 ·exact Nat.lt_of_lt_of_le (hL.lt k q).2 hb.size
 ·exact q.2
theorem Joq (hL : LgIn B b d G vs P w) (h : DkX (fun k => X k ∨ LgF b vs P k) B d D w) (hX : ∀ k, X k → k < w.heap.size) (hB : B ≤ w.heap.size) (hv : Vr w) (hN : ∀ k, LgF b vs P k → ¬ X k) (h3 : 3 ≤ B) :
  Calls Tryz.prog 61 #[.pointer (some ⟨b, 0, none⟩), .slice (some ⟨w.heap.size, 0, none⟩) 1 1] (w.alloc (.cells #[fnV6 (72, #[.pointer (some ⟨b, 0, none⟩)], #[])] 58)) (HgO X B b d ((syncL G D).1, (syncL G D).2, G.hold (syncL G D).1) w) := by
 have hb := (Below.refl w.heap.size w).alloc (Nat.le_refl _) (.cells #[fnV6 (72, #[.pointer (some ⟨b, 0, none⟩)], #[])] 58);have hbk := Jae #[fnV6 (72, #[.pointer (some ⟨b, 0, none⟩)], #[])] 58 w;obtain ⟨n1, n2⟩ := Je8 h hL hX hb;generalize w.alloc (.cells #[fnV6 (72, #[.pointer (some ⟨b, 0, none⟩)], #[])] 58) = w1 at *
 have key := Jed (X := fun k => (X k ∨ LgF b vs P k) ∨ (w.heap.size ≤ k ∧ k < w1.heap.size)) [(72, #[.pointer (some ⟨b, 0, none⟩)], #[])] w.heap.size 1 [syncL G] rfl (by simp) (hL.below hb) n1 n2 (Nat.le_trans hB hb.size) (hv.below hb) (fun k hk => .inl (.inr hk)) h3 (.inr ⟨Nat.le_refl _, hbk.lt⟩)
  (fun j hj => by
   match j, hj with
   | 0, _ => exact hbk.cell 0)
  (fun i hi => by
   match i, hi with
   | 0, _ => exact Jav (fn := Tryz.f72) (by kernel_rfl) (by kernel_rfl) rfl)
  (fun i hi hi' D' w' hd hl hv' hw => by
   match i, hi, hi' with
   | 0, _, _ => exact Jhe hl hd (fun k hk => Nat.lt_of_lt_of_le (n2 k hk) hw.size) (Nat.le_trans hB (Nat.le_trans hb.size hw.size)) hv' (fun k hk => .inl (.inr hk)))
 rw [Jcd] at key;exact key.mono fun e w9 ho => Jp3 hL hN h3 hB hb (fun k hk => .inl hk) ho
theorem Jez (h : HgX X B b d D G w) (hX : ∀ k, X k → k < w.heap.size) (hB : B ≤ w.heap.size) :
  Calls Tryz.prog 20 #[.pointer (some ⟨b, 0, none⟩)] w (HgO X B b d (Hl.sync G D) w) := by
 have CS := Qh (Jay h);by_cases hs : Hl.state D G = 0
 ·have he : Hl.sync G D = ((syncL G D).1, (syncL G D).2, G.hold (syncL G D).1) := if_neg (by simp [hs])
  rw [he]
  have CR := Qh (show ∀ W, Below w.heap.size w W → Calls Tryz.prog 61 #[.pointer (some ⟨b, 0, none⟩), .slice (some ⟨W.heap.size, 0, none⟩) 1 1] (W.alloc (.cells #[.func (Fn.func 72) #[.pointer (some ⟨b, 0, none⟩)] #[]] 58)) (HgO X B b d ((syncL G D).1, (syncL G D).2, G.hold (syncL G D).1) W) from fun W hb => by
   obtain ⟨vs, P, h1, h2, h3, h4, h5⟩ := h.below hb
   exact Joq h1 h2 (fun k hk => Nat.lt_of_lt_of_le (hX k hk) hb.size) (Nat.le_trans hB hb.size) h4 h3 h5)
  rw [hs] at CS;clear h hX hB hs he;generalize syncL G D = r at *;go_enter Tryz.func20, Tryz.ntmps20;go_wp2_with fail;with_reducible refine CS.o.mono ?_
  rintro e w1 ⟨rfl, hb⟩;have HB := Qh hb;clear hb CS;go_wp2_with fail;with_reducible refine (CR.o _ HB.o).mono ?_
  rintro e w2 ho;have HO := Qh ho;obtain ⟨rfl, -⟩ := ho;clear CR;go_wp2_with fail;go_ret;exact ⟨rfl, HO.o.2.1, (Jad HB.o).trans HO.o.2.2⟩
 ·have he : Hl.sync G D = (Hl.state D G, D, G) := if_pos hs
  rw [he];have HF := Qh (fun w' (hb : Below w.heap.size w w') => Jcx (v := Hl.state D G) h hb);clear h hX hB he;generalize Hl.state D G = z at *;have dz : (z != 0) = true := by simpa using hs
  go_enter Tryz.func20, Tryz.ntmps20;go_wp2_with fail;with_reducible refine CS.o.mono ?_
  rintro e w1 ⟨rfl, hb⟩;have HB := Qh hb;clear hb CS;go_wp2_with fail;go_ret;exact HF.o _ HB.o
end
end
section
open Go Go.RowKit Go.Maps
namespace Hl
def Lg.put1 (G : Lg) (k : Nat) : Lg := { G with S := G.S.dropLast ++ [⟨(lastS G).n, (lastS G).es ++ [(lastS G).size + k]⟩] }
def Lg.push (G : Lg) (s : Sm) : Lg := { G with S := G.S ++ [s] }
theorem nats_app (a c : List Nat) : nats (a ++ c) = nats a ++ nats c := by unfold nats; exact List.map_append
theorem size_le {s : Sm} (h : ∀ e ∈ s.es, e ≤ 100 * s.es.length) : s.size ≤ 100 * s.es.length := by
 unfold Sm.size;rw [List.getD];cases hh : s.es[s.es.length - 1]? with
 | none => exact Nat.zero_le _
 | some x => exact h x (List.mem_of_getElem? hh)
theorem put1_ok {G : Lg} (h : LgOk G) (hn : G.S ≠ []) {k : Nat} (hk : k ≤ 100) (hf : (lastS G).fin < 900) : LgOk (G.put1 k) := by
 obtain ⟨l1, l2⟩ := Jdo h hn;have hp : 0 < G.S.length := List.length_pos_iff.2 hn;refine ⟨?_, fun s hs => ?_, h.st⟩
 ·have := h.few
  unfold Lg.put1;simp only [List.length_append, List.length_dropLast, List.length_singleton];omega
 ·unfold Lg.put1 at hs
  rcases List.mem_append.1 hs with hs | hs
  ·exact h.seg s (List.dropLast_subset _ hs)
  ·obtain rfl := List.mem_singleton.1 hs
   unfold Sm.fin at *;have hz := size_le l2;refine ⟨by simp only [List.length_append, List.length_singleton]; omega, fun e he => ?_⟩;simp only [List.length_append, List.length_singleton];rcases List.mem_append.1 he with he | he
   ·have := l2 e he; omega
   ·have := List.mem_singleton.1 he; omega
theorem push_ok {G : Lg} (h : LgOk G) {s : Sm} (hs : s.fin ≤ 900 ∧ ∀ e ∈ s.es, e ≤ 100 * s.es.length) (hf : G.S.length < 1000) : LgOk (G.push s) :=
 ⟨by unfold Lg.push; simp only [List.length_append, List.length_singleton]; omega, fun t ht => by
  rcases List.mem_append.1 ht with ht | ht
  ·exact h.seg t ht
  ·rw [List.mem_singleton.1 ht]; exact hs, h.st⟩
theorem lastS_snoc {S0 : List Sm} {s : Sm} {G : Lg} (h : G.S = S0 ++ [s]) : lastS G = s := by unfold lastS; rw [h]; simp
theorem snoc_of {α : Type} {P : List α} {m : Nat} {p : α} (hm : P.length = m + 1) (h : P[m]? = some p) : P = P.dropLast ++ [p] ∧ P.dropLast.length = m := by
 have hne : P ≠ [] := fun e => by rw [e] at hm; simp at hm
 refine ⟨?_, by rw [List.length_dropLast]; omega⟩;have h1 := List.dropLast_concat_getLast hne
 have h2 : P.getLast hne = p := by
  rw [List.getLast_eq_getElem];have e : P.length - 1 = m := by omega
  simp only [e];rw [List.getElem?_eq_getElem (by omega)] at h;exact Option.some.inj h
 rw [h2] at h1;exact h1.symm
end Hl
section
variable {X Y : Nat → Prop} {B b d : Nat} {G : Hl.Lg} {D : Dk.St} {vs : Value} {P : List (Hl.Sm × Value)} {w w' w1 : World}
open Hl
theorem Jct {B1 B2 : Nat} {e e' : TypeId} {sz sz' : Nat} {u v : Value} {n n' : Nat} {xs xs' : List Value} (h : Ofr B1 e sz u n xs w) (k : Ofr B2 e' sz' v n' xs' w) (hne : e ≠ e') : ∀ q, u.ownBlock = some q → v.ownBlock ≠ some q := by
 intro q hq hq2;rcases k.or_ with ⟨rfl, _⟩ | ⟨g, o, cap, C, rfl, hb, hg, _⟩
 ·cases hq2
 ·simp only [Value.ownBlock, Option.some.injEq] at hq2
  subst hq2;exact h.ne hg (fun e => hne e.symm) g hq rfl
theorem LgIn.put1 {P0 : List (Sm × Value)} {s : Sm} {v v' : Value} {g o m cap k : Nat} (hL : LgIn B b d G (.slice (some ⟨g, o, none⟩) (m + 1) cap) (P0 ++ [(s, v)]) w) (hm : P0.length = m) (hk : k ≤ 100) (hf : s.fin < 900)
  (ho : w1.ownsRow B 3 1 v' (s.es.length + 1) (nats s.es ++ [.int .i64 ((s.size + k : Nat) : Int)])) (hw : Wr (fun q => v.ownBlock = some q) w w1) (hv : ∀ q, v'.ownBlock = some q → v.ownBlock = some q ∨ w.heap.size ≤ q) :
  LgIn B b d (G.put1 k) (.slice (some ⟨g, o, none⟩) (m + 1) cap) (P0 ++ [(⟨s.n, s.es ++ [s.size + k]⟩, v')]) (w1.setCell ⟨g, o + m * 2 + 1, none⟩ v') := by
 have hS : G.S = P0.map (·.1) ++ [s] := by rw [← hL.seg, List.map_append]; rfl
 have hlS := lastS_snoc hS;have hvr := hL.ends (s, v) (by simp);have hvb : ∀ q, v.ownBlock = some q → q ≠ b := (Jak hvr).ne hL.box (by decide);have hvg : ∀ q, v.ownBlock = some q → q ≠ g := fun q hq e => Jct (Jak hvr) hL.row (by decide) q hq (by rw [e]; rfl)
 have hgb : g ≠ b := hL.row.ne hL.box (by decide) g rfl;have hg0 : g < w.heap.size := (hL.row.lt g rfl).2
 have hv'g : ∀ q, v'.ownBlock = some q → q ≠ g := fun q hq e => by
  rcases hv q hq with h | h
  ·exact hvg q h e
  ·omega
 have hap := List.pairwise_append.1 hL.apart;refine ⟨?_, ?_, ?_, fun p hp => ?_, ?_, put1_ok hL.ok (by rw [hS]; simp) hk (by rw [hlS]; exact hf), hL.bB⟩
 ·exact ((hL.box.wr hw (fun q => hvb b q rfl)).other (fun e => hgb e.symm) _ _)
 ·have hr := hL.row.wr hw (fun q hq hh => hvg q hh (by simp only [Value.ownBlock, Option.some.injEq] at hq; exact hq.symm))
  have hlen : (P0 ++ [(s, v)]).length = m + 1 := by rw [List.length_append, hm]; rfl
  have hlen' : (P0 ++ [((⟨s.n, s.es ++ [s.size + k]⟩ : Sm), v')]).length = m + 1 := by rw [List.length_append, hm]; rfl
  rw [hlen] at hr;rw [hlen'];have := hr.set (j := m * 2 + 1) (by omega) v'
  have e : (segsV (P0 ++ [(s, v)])).set (m * 2 + 1) v' = segsV (P0 ++ [((⟨s.n, s.es ++ [s.size + k]⟩ : Sm), v')]) := by
   rw [segsV_app, segsV_app, List.set_append_right _ _ (by rw [segsV_len, hm]; omega), segsV_len, hm, show m * 2 + 1 - m * 2 = 1 by omega];rfl
  rw [e, ← Nat.add_assoc] at this;exact this
 ·show _ = G.S.dropLast ++ _
  rw [List.map_append, hlS, hS, List.dropLast_concat];rfl
 ·rcases List.mem_append.1 hp with hp | hp
  ·have h1 := hL.ends p (by simp [hp])
   have h2 := hap.2.2 p hp (s, v) (by simp);exact Jaw (Jal h1 hw (fun q hq hh => h2 q hq hh)) (fun q hq e => Jct (Jak h1) hL.row (by decide) q hq (by rw [e]; rfl))
  ·obtain rfl := List.mem_singleton.1 hp
   simp only;rw [nats_app, List.length_append];exact Jaw ho hv'g
 ·refine List.pairwise_append.2 ⟨hap.1, List.pairwise_singleton _ _, fun p hp q hq => ?_⟩
  obtain rfl := List.mem_singleton.1 hq;intro z hz hz2;rcases hv z hz2 with h | h
  ·exact hap.2.2 p hp (s, v) (by simp) z hz h
  ·have := ((hL.ends p (by simp [hp])).lt z hz).2
   omega
theorem LgIn.push {v' ve : Value} {s : Sm} (hL : LgIn B b d G vs P w) (hs : s.fin ≤ 900 ∧ ∀ e ∈ s.es, e ≤ 100 * s.es.length) (hf : G.S.length < 1000)
  (ho : Ofr B 88 2 v' (P.length + 1) (segsV P ++ [.int .i64 (s.n : Nat), ve]) w1) (hw : Wr (fun q => vs.ownBlock = some q) w w1)
  (he : w.ownsRow B 3 1 ve s.es.length (nats s.es)) (hn : ∀ k, LgF b vs P k → ve.ownBlock ≠ some k) :
  LgIn B b d (G.push s) v' (P ++ [(s, ve)]) (w1.setCell ⟨b, 3, none⟩ v') := by
 have hvb : ∀ q, vs.ownBlock = some q → q ≠ b := hL.row.ne hL.box (by decide);have hbk := hL.box.wr hw (fun q => hvb b q rfl);have hset := Jai (A := fun z => z = b) w1 ⟨b, 3, none⟩ v' rfl;have he1 : w1.ownsRow B 3 1 ve s.es.length (nats s.es) := Jal he hw (fun q hq hh => hn q (.inr (.inl hh)) hq);refine ⟨?_, ?_, ?_, fun p hp => ?_, ?_, push_ok hL.ok hs hf, hL.bB⟩
 ·have := hbk.set 3 v'
  exact this
 ·rw [segsV_app, List.length_append]
  exact ho.wr hset (fun q hq => ho.ne hbk (by decide) q hq)
 ·show _ = G.S ++ [s]
  rw [List.map_append, hL.seg];rfl
 ·rcases List.mem_append.1 hp with hp | hp
  ·have h1 := Jal (hL.ends p hp) hw (fun q hq hh => Jct (Jak (hL.ends p hp)) hL.row (by decide) q hq hh)
   exact Jaw h1 ((Jak h1).ne hbk (by decide))
  ·obtain rfl := List.mem_singleton.1 hp
   exact Jaw he1 ((Jak he1).ne hbk (by decide))
 ·refine List.pairwise_append.2 ⟨hL.apart, List.pairwise_singleton _ _, fun p hp q hq => ?_⟩
  obtain rfl := List.mem_singleton.1 hq;intro z hz;exact hn z (.inr (.inr ⟨p, hp, hz⟩))
theorem Jm2 {v' ve : Value} {s : Sm} (hv : ∀ q, v'.ownBlock = some q → vs.ownBlock = some q ∨ w.heap.size ≤ q) : ∀ k, LgF b v' (P ++ [(s, ve)]) k → LgF b vs P k ∨ ve.ownBlock = some k ∨ (v'.ownBlock = some k ∧ w.heap.size ≤ k) := by
 intro k hk;rcases hk with q | q | ⟨p, hp, q⟩
 ·exact .inl (.inl q)
 ·rcases hv k q with h | h
  ·exact .inl (.inr (.inl h))
  ·exact .inr (.inr ⟨q, h⟩)
 ·rcases List.mem_append.1 hp with hp | hp
  ·exact .inl (.inr (.inr ⟨p, hp, q⟩))
  ·obtain rfl := List.mem_singleton.1 hp
   exact .inr (.inl q)
theorem put1_F {P0 : List (Sm × Value)} {s s' : Sm} {v v' : Value} (hv : ∀ q, v'.ownBlock = some q → v.ownBlock = some q ∨ w.heap.size ≤ q) : ∀ k, LgF b vs (P0 ++ [(s', v')]) k → LgF b vs (P0 ++ [(s, v)]) k ∨ (v'.ownBlock = some k ∧ w.heap.size ≤ k) := by
 intro k hk;rcases hk with q | q | ⟨p, hp, q⟩
 ·exact .inl (.inl q)
 ·exact .inl (.inr (.inl q))
 ·rcases List.mem_append.1 hp with hp | hp
  ·exact .inl (.inr (.inr ⟨p, by simp [hp], q⟩))
  ·obtain rfl := List.mem_singleton.1 hp
   rcases hv k q with h | h
   ·exact .inl (.inr (.inr ⟨(s, v), by simp, h⟩))
   ·exact .inr ⟨q, h⟩
end
end
end Go.Proofs.YtmammmjmipgmoaaGreatDoor
