import Derived.Test.YtmammmjmipgmoaaGreatDoorZHb
import Derived.Test.YtmammmjmipgmoaaGreatDoorZQ
import Derived.Test.YtmammmjmipgmoaaGreatDoorZQh
set_option linter.unusedVariables false
set_option maxRecDepth 100000
set_option maxHeartbeats 16000000
namespace Go.Proofs.YtmammmjmipgmoaaGreatDoor
open Go Go.RowKit Go.Maps
namespace Hl
abbrev fnum (name : List UInt8) : Option Int := Fnum [108] 0 999999999 name
theorem fnum_nm : ∀ n : Fin 1000, fnum (nm n.val) = some (n.val : Int) := by decide +kernel
theorem fnum_nD : fnum nD = none := by decide +kernel
theorem fnum_inj {x : List UInt8} {v : Int} (h : fnum x = some v) : x = 108 :: Lib.itoa v := by
 unfold fnum Fnum at h;split at h
 ·rename_i hp
  split at h
  ·rename_i u hu
   split at h
   ·cases h
   ·rename_i hn
    injection h with h
    subst h
    have h1 : Lib.itoa u = Lib.trimPrefix x [108] := by
     by_cases q : Lib.itoa u = Lib.trimPrefix x [108]
     ·exact q
     ·exact absurd (.inr (.inr q)) hn
    rw [h1];unfold Lib.trimPrefix;rw [if_pos hp];unfold Lib.hasPrefix at hp;obtain ⟨t, ht⟩ := List.isPrefixOf_iff_prefix.1 hp;rw [← ht];rfl
  ·cases h
 ·cases h
theorem nums_perm {L : List Dk.Fl} (h : Dk.OkL L) : (Jar [108] 0 999999999 (Dk.names L)).Nodup := by
 unfold Jar
 have hn : (Dk.names L).Nodup := by
  unfold Dk.names;refine (List.pairwise_map.2 (h.up.imp fun {f g} hfg e => ?_));rw [e] at hfg;rw [Dk.less_irr5] at hfg;cases hfg
 refine List.Pairwise.filterMap _ (fun a a' hne b hb b' hb' => ?_) hn;rintro rfl;exact hne ((fnum_inj hb).trans (fnum_inj hb').symm)
theorem nums_sort {l : List Int} (hn : l.Nodup) {k : List Nat} (hk : k.Pairwise (· < ·)) (hm : ∀ v : Int, v ∈ l ↔ ∃ n ∈ k, v = (n : Int)) : Jbk l = k.map fun n : Nat => (n : Int) := by
 have hkn : (k.map fun n : Nat => (n : Int)).Nodup := List.pairwise_map.2 (hk.imp fun {a b} h e => by omega)
 have hp : (Jbk l).Perm (k.map fun n : Nat => (n : Int)) := (List.mergeSort_perm _ _).trans ((List.perm_ext_iff_of_nodup hn hkn).2 fun v => by
  rw [hm v, List.mem_map]
  exact ⟨fun ⟨n, h1, h2⟩ => ⟨n, h1, h2.symm⟩, fun ⟨n, h1, h2⟩ => ⟨n, h1, h2.symm⟩⟩)
 refine List.Perm.eq_of_pairwise (le := fun a b => a ≤ b) (fun a b _ _ h1 h2 => by omega) ?_ ?_ hp
 ·have := List.pairwise_mergeSort (le := fun a b : Int => decide (a ≤ b)) (fun a b c h1 h2 => by simp only [decide_eq_true_eq] at *; omega) (fun a b => by simp only [Bool.or_eq_true, decide_eq_true_eq]; omega) l
  exact this.imp fun {a b} h => by simpa using h
 ·exact List.pairwise_map.2 (hk.imp fun {a b} h => by omega)
theorem HasZ.nums {F : Nat} {A : List Sg} {z : Sg} {tl : List UInt8} {L : List Dk.Fl} (h : HasZ F A z tl L) : Jbk (Jar [108] 0 999999999 (Dk.names L)) = (A ++ [z]).map fun s => (s.n : Int) := by
 have key := nums_sort (nums_perm h.ok) (k := (A ++ [z]).map (·.n)) (by
  rw [List.map_append, List.map_cons, List.map_nil];refine List.pairwise_append.2 ⟨List.pairwise_map.2 (h.ch.up), by simp, fun a ha b hb => ?_⟩;obtain ⟨s, hs, rfl⟩ := List.mem_map.1 ha;simp only [List.mem_singleton] at hb;subst hb
  exact (h.nA hs).1) (fun v => by
  unfold Jar;rw [List.mem_filterMap];constructor
  ·rintro ⟨x, hx, hv⟩
   obtain ⟨f, hf, rfl⟩ := List.mem_map.1 hx;rcases h.names f hf with q | q | ⟨s, hs, q⟩
   ·rw [q] at hv
    have : fnum nD = some v := hv;rw [fnum_nD] at this;cases this
   ·rw [q] at hv
    have := (fnum_nm ⟨z.n, h.n1⟩).symm.trans hv;injection this with this
    exact ⟨z.n, by simp, this.symm⟩
   ·rw [q] at hv
    have := (fnum_nm ⟨s.n, (h.nA hs).2⟩).symm.trans hv;injection this with this
    exact ⟨s.n, List.mem_map.2 ⟨s, by simp [hs], rfl⟩, this.symm⟩
  ·rintro ⟨n, hn, rfl⟩
   obtain ⟨s, hs, rfl⟩ := List.mem_map.1 hn
   have hh : Dk.has (nm s.n) L = true ∧ s.n < 1000 := by
    rcases List.mem_append.1 hs with q | q
    ·exact ⟨(h.whole s q).1, (h.nA q).2⟩
    ·rw [List.mem_singleton.1 q]; exact ⟨h.last.1, h.n1⟩
   exact ⟨nm s.n, by simpa [Dk.has, Dk.names] using hh.1, fnum_nm ⟨s.n, hh.2⟩⟩)
 rw [key, List.map_map];rfl
theorem Has0.nums {L : List Dk.Fl} (h : Has0 L) : Jbk (Jar [108] 0 999999999 (Dk.names L)) = [] := by
 have : Jar [108] 0 999999999 (Dk.names L) = [] := by
  unfold Jar;rw [List.filterMap_eq_nil_iff];intro x hx;obtain ⟨f, hf, rfl⟩ := List.mem_map.1 hx;rw [h.names f hf];exact fnum_nD
 rw [this];simp [Jbk]
end Hl
def MarksAt (B : Nat) : List Deferred → World → Prop
 | [], _ => True
 | d :: ds, w => (∃ r, d.target = .collected r ∧ B ≤ r ∧ w.heap[r]? = some (.deferred (some [])) ∧ ∀ e ∈ ds, e.target ≠ .collected r) ∧ MarksAt B ds w
theorem MarksAt.keep {B : Nat} {w w' : World} (hk : KeepsOthers w w') : ∀ {ds : List Deferred}, MarksAt B ds w → MarksAt B ds w'
 | [], _ => trivial
 | d :: ds, ⟨⟨r, h1, h2, h3, h4⟩, h5⟩ => ⟨⟨r, h1, h2, hk.same _ _ h3 rfl, h4⟩, MarksAt.keep hk h5⟩
theorem MarksAt.lt {B : Nat} {w : World} : ∀ {ds : List Deferred}, MarksAt B ds w → ∀ e ∈ ds, ∃ r, e.target = .collected r ∧ r < w.heap.size
 | d :: ds, ⟨⟨r, h1, h2, h3, h4⟩, h5⟩, e, he => by
  rcases List.mem_cons.1 he with rfl | he
  ·exact ⟨r, h1, (Array.getElem?_eq_some_iff.1 h3).1⟩
  ·exact h5.lt e he
structure Turn6 (B : Nat) (w w' : World) : Prop where
 bel : Below B w w'
 cells : ∀ (k : Nat) (o : Obj), w.heap[k]? = some o → o.isCells = true → w'.heap[k]? = some o
 size : w'.heap.size = w.heap.size
theorem Jll (B : Nat) (w : World) : Turn6 B w w := ⟨Below.refl _ _, fun _ _ h _ => h, rfl⟩
theorem Turn6.bk {B : Nat} {w w' : World} {C : Array Value} {T : TypeId} {b : Nat} (h : Turn6 B w w') (k : Bk C T w b) : Bk C T w' b := h.cells _ _ k rfl
theorem Jf7 {B r : Nat} {o : Obj} {w : World} : ∀ {ds : List Deferred}, (∀ e ∈ ds, e.target ≠ .collected r) → MarksAt B ds w → MarksAt B ds (w.putObj r o)
 | [], _, _ => trivial
 | d :: ds, hn, ⟨⟨q, h1, h2, h3, h4⟩, h5⟩ => ⟨⟨q, h1, h2, (World.putObj_heap_other (fun e => hn d (List.mem_cons_self ..) (by rw [h1, e]))).trans h3, h4⟩, Jf7 (fun e he => hn e (List.mem_cons_of_mem _ he)) h5⟩
theorem Jek {F : Fence} {n : Nat} {P : Program} {fn : Func} {tmps : Array Value} {R : Ending → World → Prop} {B : Nat} : ∀ (ds : List Deferred) (w : World), B ≤ w.heap.size → MarksAt B ds w →
  (∀ w', Turn6 B w w' → LeavesInM F n P fn tmps R [] .returning w') → LeavesInM F n P fn tmps R ds .returning w
 | [], w, _, _, h => h w (Jll B w)
 | d :: ds, w, hB, ⟨⟨r, h1, h2, h3, h4⟩, h5⟩, h => by
  have hlt := (Array.getElem?_eq_some_iff.1 h3).1;have hg := grownBy_putObj' w r (.deferred none);have hsz : (w.putObj r (.deferred none)).heap.size = w.heap.size := by simp [World.putObj]
  refine ⟨by simp, .inl ⟨r, _, h1, run_takeDeferred h3, ?_⟩⟩;refine Jek (B := B) ds _ (by rw [hsz]; exact hB) (Jf7 h4 h5) (fun w' ht => h w' ⟨?_, ?_, ht.size.trans hsz⟩)
  ·exact ((Below.refl B w).grown hg hB (fun k e => by cases e; exact h2)).trans ht.bel
  ·intro k o hk hc
   refine ht.cells k o ?_ hc
   rw [World.putObj_heap_other (fun e => by
    subst e;rw [h3] at hk;cases hk
    cases hc)]
   exact hk
end Go.Proofs.YtmammmjmipgmoaaGreatDoor
