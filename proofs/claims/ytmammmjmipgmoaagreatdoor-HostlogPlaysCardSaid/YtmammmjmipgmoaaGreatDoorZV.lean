import Derived.Test.YtmammmjmipgmoaaGreatDoorZU
import Derived.Deep.Slices
import Derived.ChangeSame
import Derived.WideShapes
import Derived.OpenShut
import Derived.Test.YtmammmjmipgmoaaGreatDoorZQh
set_option linter.unusedVariables false
set_option maxRecDepth 100000
set_option maxHeartbeats 16000000
namespace Go.Proofs.YtmammmjmipgmoaaGreatDoor
section
set_option linter.unusedSimpArgs false
set_option linter.constructorNameAsVariable false
open Go Go.RowKit
theorem Jcm {n : Int} (h : (Lit.int .i64 n).wf = true) : -9223372036854775808 ≤ n ∧ n ≤ 9223372036854775807 := by
 simp [Lit.wf, IntKind.min, IntKind.max, IntKind.signed, IntKind.bits] at h;omega
theorem u8_wf5 {n : Int} (h : (Lit.int .u8 n).wf = true) : 0 ≤ n ∧ n ≤ 255 := by
 simp [Lit.wf, IntKind.min, IntKind.max, IntKind.signed, IntKind.bits] at h;omega
theorem Jhc {f : Nat → Option Value} : ∀ (l : List Nat) (cs : List Value), l.mapM f = some cs → cs.length = l.length ∧ ∀ (j : Nat) (u : Value), cs[j]? = some u → ∃ i : Nat, l[j]? = some i ∧ f i = some u
 | [], cs, h => by simp at h; subst h; simp
 | a :: l, cs, h => by
  rw [List.mapM_cons] at h;cases hf : f a with
  | none => simp [hf] at h
  | some v =>
   cases hm : l.mapM f with
   | none => simp [hf, hm] at h
   | some vs =>
    simp [hf, hm] at h;subst h;obtain ⟨h1, h2⟩ := Jhc l vs hm;refine ⟨by simp [h1], fun j u hj => ?_⟩;cases j with
    | zero => simp at hj; exact ⟨a, rfl, by rw [hf, hj]⟩
    | succ j => simpa using h2 j u (by simpa using hj)
theorem Jda {w : World} {B n : Nat} {a : Addr} {cs : List Value} (h : w.cells? B a n = some cs) : ∀ j u, cs[j]? = some u → w.cell? (a.add j) = some u := by
 unfold World.cells? at h;split at h
 ·intro j u hj
  obtain ⟨_, h2⟩ := Jhc _ _ h;obtain ⟨i, hi, hf⟩ := h2 j u hj;obtain ⟨hlt, e⟩ := List.getElem?_eq_some_iff.1 hi;simp at e;subst e;exact hf
 ·cases h
theorem Jfe {w : World} {a : Addr} {u : Value} (h : w.cell? a = some u) : a = ⟨a.block, a.off, none⟩ := by
 obtain ⟨b, o, s⟩ := a;cases s with
 | none => rfl
 | some s =>
  unfold World.cell? at h;split at h <;> simp at h
theorem Jeu {α : Type} (d : α) (n : Nat) {p : Nat → α → Prop} (h : ∀ i, i < n → ∃ a, p i a) : ∃ l : List α, l.length = n ∧ ∀ i, i < n → p i (l.getD i d) := by
 induction n with
 | zero => exact ⟨[], rfl, fun i hi => by omega⟩
 | succ n ih =>
  obtain ⟨l, hl, hp⟩ := ih fun i hi => h i (by omega)
  obtain ⟨a, ha⟩ := h n (by omega);refine ⟨l ++ [a], by simp [hl], fun i hi => ?_⟩;by_cases hin : i < n
  ·rw [show (l ++ [a]).getD i d = l.getD i d from by simp [List.getD, List.getElem?_append_left (show i < l.length by omega)]]
   exact hp i hin
  ·obtain rfl : i = n := by omega
   rw [show (l ++ [a]).getD i d = a from by simp [List.getD, ← hl]];exact ha
structure NsI5 (l : List Int) : Prop where
 n : l.length ≤ 9223372036854775807
 each : ∀ y, y ∈ l → -9223372036854775808 ≤ y ∧ y ≤ 9223372036854775807
theorem NsI5.ks {l : List Int} (h : NsI5 l) (hl : l.length ≤ 1000000) : Dk.KsOk l := ⟨hl, h.each⟩
section
variable {w w' : World} {ao : Option Addr} {L : List Ra}
end
section
variable {H : Type} {enc : TypeId × Value → H} {W : World} {fuel : Nat} {cs : List Value} {x : DataW H × List MemPlace} {sp : Nat → Bool} {hd : Bool} {r : Reach} {b0 : Nat} {v : Value} {d : DataW H} {p : List MemPlace}
theorem Jmt (hf : DataW.trod enc Tryz.prog W 0 sp hd fuel 40 cs = some x) : ∃ (L : List Int) (ao : Option Addr) (cap : Nat), cs = [.slice ao L.length cap] ∧ NsI5 L ∧ NsA5 W ao L := by
 have c8 : Tryz.prog.cellsOf 3 = 1 := by kernel_rfl
 rcases Deep.open_slice Tryz.underlying40 hf with ⟨hcs, _⟩ | ⟨a, len, cap, m, n, D, Pz, hcs, _, hl, hm, hmm, _, hx⟩
 ·exact ⟨[], none, 0, hcs, ⟨by simp, by simp⟩, fun h => absurd rfl h⟩
 ·rw [c8] at hx
  have hlm : len ≤ m := by rw [hmm]; split <;> omega
  unfold maxLen at hm
  obtain ⟨L, hL, hp⟩ := Jeu (0 : Int) len (p := fun i y => W.cells? 0 (a.add (i * 1)) 1 = some ([.int .i64 y]) ∧ -9223372036854775808 ≤ y ∧ y ≤ 9223372036854775807) (fun i hi => by
   obtain ⟨cs', h1, h2⟩ := hx i (by omega);obtain ⟨y, e, _, w0⟩ := DataW.trod_int Tryz.underlying3 h2
   exact ⟨y, by rw [h1, e], Jcm w0⟩)
  refine ⟨L, some a, cap, by rw [hcs, hL], ⟨by omega, fun y hym => ?_⟩, fun hne => ?_⟩
  ·obtain ⟨i, hi, rfl⟩ := List.mem_iff_getElem.1 hym
   have := (hp i (by omega)).2;simpa [List.getD, List.getElem?_eq_getElem hi] using this
  ·have h0 : 0 < len := by rw [← hL]; exact List.length_pos_iff.2 hne
   have e := Jfe (Jda (hp 0 h0).1 0 _ rfl);simp only [Nat.zero_mul, show ∀ x : Addr, x.add 0 = x from fun x => if_pos rfl] at e;refine ⟨a.block, a.off, by rw [← e], fun j hj => ?_⟩;have hc := Jda (hp j (by omega)).1;rw [e, Addr.add_lit] at hc;have := hc 0 _ rfl;rw [show ∀ x : Addr, x.add 0 = x from fun x => if_pos rfl] at this;simpa using this
end
section
variable {H : Type} {enc : TypeId × Value → H} {W : World} {r : Reach} {b0 : Nat} {v : Value} {d : DataW H} {p : List MemPlace}
end
end
section
open Go Go.RowKit Go.Maps
namespace Dk
end Dk
theorem DkX.newrow {X : Nat → Prop} {B d : Nat} {D : Dk.St} {w w' : World} (h : DkX X B d D w) (hb : Below w.heap.size w w') : DkX (fun q => X q ∨ (w.heap.size ≤ q ∧ q < w'.heap.size)) B d D w' :=
 (h.more (fun q hq => hq.elim .inl (fun e => .inr e.1))).below hb
theorem DkX.less {X X' : Nat → Prop} {B d : Nat} {D : Dk.St} {w : World} (h : DkX X B d D w) (hX : ∀ k, X' k → X k) : DkX X' B d D w := h.more (fun k hk => .inl (hX k hk))
end
end Go.Proofs.YtmammmjmipgmoaaGreatDoor
