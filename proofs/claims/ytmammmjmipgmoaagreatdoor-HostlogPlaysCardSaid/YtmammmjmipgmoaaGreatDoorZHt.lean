import Derived.Test.YtmammmjmipgmoaaGreatDoorZHs
import Derived.Test.YtmammmjmipgmoaaGreatDoorZHj
import Derived.Test.YtmammmjmipgmoaaGreatDoorZHh
import Derived.Test.YtmammmjmipgmoaaGreatDoorZF
import Derived.SizedLaws
import Derived.Test.YtmammmjmipgmoaaGreatDoorZQh
set_option linter.unusedVariables false
set_option maxRecDepth 100000
set_option maxHeartbeats 16000000
namespace Go.Proofs.YtmammmjmipgmoaaGreatDoor
section
open Go Go.RowKit Go.Maps
section
variable {H : Type} {enc : TypeId × Value → H} {W : World} {fuel : Nat} {cs : List Value} {x : DataW H × List MemPlace} {B : Nat} {sp : Nat → Bool} {hd : Bool} {r : Reach} {b0 : Nat} {v : Value} {d : DataW H} {p : List MemPlace}
end
section
variable {H : Type} {enc : TypeId × Value → H} {W : World} {fuel : Nat} {B : Nat} {sp : Nat → Bool} {hd : Bool} {r : Reach} {b0 : Nat} {v : Value} {d : DataW H} {p : List MemPlace}
end
section
variable {X : Nat → Prop} {B b d : Nat} {F : Nat} {Z : List Hl.Sg} {G : Hl.Lg} {D : Dk.St} {w w' : World}
open Hl
theorem Jo2 : Has0 [] := ⟨⟨List.Pairwise.nil, (fun f hf => by cases hf), (fun f hf => by cases hf)⟩, (fun f hf => by cases hf)⟩
theorem Jnc (n : Nat) : Lv 0 [] ⟨0, false, []⟩ (Dk.new n) := ⟨.inl ⟨rfl, rfl, Jo2⟩, fun _ => rfl, rfl, rfl, rfl, rfl, rfl⟩
end
end
section
open Go Go.RowKit Go.Maps
namespace Hl
section
variable {K : List M.Sp} {s : Nat} {Z : List Sg} {G : Lg} {D : Dk.St}
theorem append_no {F : Nat} {x : M.Sp} (h : Lv F Z G D) (hx : M.mayB x = false) : append6 x G D = (2, D, G) := by
 unfold append6;rw [if_neg (by rw [h.state]; simp), if_pos hx]
end
end Hl
section
open Hl
variable {w0 w w' : World} {b d : Nat} {D : Dk.St} {G : Lg} {R : List (Value × List M.Sp)}
end
section
open Hl
variable {X : Nat → Prop} {B b d : Nat} {Z : List Hl.Sg} {G : Hl.Lg} {D : Dk.St} {w w' : World}
end
end
section
open Go Go.RowKit Go.Maps
namespace Hl
section
variable {F F' : Nat} {Z Z' : List Sg} {tl : List UInt8} {L L' : List Dk.Fl} {D : Dk.St} {G : Lg} {K : List M.Sp} {s : Nat}
theorem filterMap_lt {α β : Type} {f : α → Option β} : ∀ {l : List α}, (∃ x ∈ l, f x = none) → (l.filterMap f).length < l.length
 | a :: l, ⟨x, hx, e⟩ => by
  have hle := List.length_filterMap_le f l;rcases List.mem_cons.1 hx with rfl | hx
  ·rw [List.filterMap_cons_none e, List.length_cons]
   omega
  ·have := filterMap_lt (f := f) ⟨x, hx, e⟩
   rw [List.filterMap_cons];cases f a with
   | none => simp only [List.length_cons]; omega
   | some b => simp only [List.length_cons]; omega
theorem nod_of (h : HasS F Z tl L) (hl : L.length = Z.length) : Dk.has nD L = false := by
 cases hh : Dk.has nD L with
 | false => rfl
 | true =>
  exfalso
  obtain ⟨f, hf, hn⟩ := Dk.has_iff.1 hh
  have hnum : Jbk (Jar [108] 0 999999999 (Dk.names L)) = Z.map fun s => (s.n : Int) := by
   rcases h with ⟨rfl, _, q⟩ | ⟨A, z, rfl, q⟩
   ·exact q.nums
   ·exact q.nums
  have h1 := congrArg List.length hnum;unfold Jbk at h1;rw [List.length_mergeSort, List.length_map] at h1
  have h2 : (Jar [108] 0 999999999 (Dk.names L)).length < (Dk.names L).length := by
   unfold Jar;exact filterMap_lt ⟨nD, List.mem_map.2 ⟨f, hf, hn⟩, fnum_nD⟩
  unfold Dk.names at h2;rw [List.length_map] at h2;unfold Dk.names at h1;omega
structure Fell (F : Nat) (Z : List Sg) (tl : List UInt8) (D : Dk.St) : Prop where
 hz : HasS F Z tl D.L
 f0 : Z = [] → F = 0
 set : D.set = none
 len : D.L.length = Z.length
 safe : SafeZ Z D.L
theorem fell_of (h : HasS F Z [] D.L) (f0 : Z = [] → F = 0) (hl : D.L.length = Z.length) (ks : List Int) : ∃ Z' tl', Fell F Z' tl' (Dk.fall ks D) ∧ flat Z' <+: flat Z ∧ (flat Z).take (sureN Z D.L) <+: flat Z' ∧ sureN Z' (Dk.fall ks D).L = cnt Z' := by
 obtain ⟨Z', tl', h1, h2, h3, h4, h5, h6⟩ := h.fell ks;refine ⟨Z', tl', ⟨h1, fun q => f0 (h6 q), rfl, ?_, h2⟩, h4, h5, sureN_safe h1 h2⟩;show (Dk.cut ks D.L).length = _
 rw [Dk.cut_len, hl, h3]
theorem size_fall (h : Dk.OkL D.L) (ks : List Int) : Dk.size (Dk.fall ks D).L ≤ Dk.size D.L := Dk.size_cut ks h.safe
end
end Hl
section
open Hl
variable {w0 w w' : World} {b d : Nat} {D : Dk.St} {G : Lg} {R : List (Value × List M.Sp)}
theorem Jqi {w : World} {ao : Option Addr} {ks : List Int} (h : NsA5 w ao ks) : ∀ a, ks ≠ [] → ao = some a → a.block < w.heap.size := fun a hne e => by
 obtain ⟨g, off, e2, hc⟩ := h hne;rw [e2] at e;injection e with e
 subst e;exact World.block_lt_of_cell? w _ (hc 0 (List.length_pos_iff.2 hne))
end
end
section
open Go Go.RowKit Go.Maps
section
variable {X Y : Nat → Prop} {B b d : Nat} {G : Hl.Lg} {D : Dk.St} {w w' : World}
open Hl
theorem Ji8 (h : HgX X B b d D G w) (x : M.Sp) (hs : Hl.state D G ≠ 0) :
  Calls Tryz.prog 19 #[.pointer (some ⟨b, 0, none⟩), spA6 x] w (HgO X B b d (Hl.state D G, D, G) w) := by
 have CS := Qh (fun W (k : Below w.heap.size w W) => Jay (h.below k));have HS := Qh (fun W (k : Below w.heap.size w W) => Jcx (v := Hl.state D G) h k);clear h;generalize Hl.state D G = z at *;have dz : (z != 0) = true := by simpa using hs
 unfold spA6 at *;go_enter Tryz.func19, Tryz.ntmps19;go_wp2_with fail;with_reducible refine (CS.o _ (Qa _)).mono ?_
 rintro e w1 ⟨rfl, hb⟩;have HB := Qh (Jaa (Qa _) hb);clear hb CS;go_wp2_with fail;go_ret;exact HS.o _ HB.o
theorem Ji9 (h : HgX X B b d D G w) (hs : Hl.state D G ≠ 0) :
  Calls Tryz.prog 21 #[.pointer (some ⟨b, 0, none⟩)] w (HgO X B b d (Hl.state D G, D, G) w) := by
 have CS := Qh (Jay h);have HS := Qh (fun W (k : Below w.heap.size w W) => Jcx (v := Hl.state D G) h k);clear h;generalize Hl.state D G = z at *;have dz : (z != 0) = true := by simpa using hs
 go_enter Tryz.func21, Tryz.ntmps21;go_wp2_with fail;with_reducible refine CS.o.mono ?_
 rintro e w1 ⟨rfl, hb⟩;have HB := Qh hb;clear hb CS;go_wp2_with fail;go_ret;exact HS.o _ HB.o
end
namespace Hl
section
variable {F F' : Nat} {Z Z' : List Sg} {tl : List UInt8} {L L' : List Dk.Fl} {D : Dk.St} {G : Lg} {K : List M.Sp} {i : Nat} {r : Int × Dk.St × Lg} {Y : Nat → List Sg → List Dk.Fl → Prop} {full : Prop}
def Nxt (F : Nat) (Z : List Sg) (D : Dk.St) (i : Nat) (D' : Dk.St) (G' : Lg) : Prop :=
 D'.room = D.room ∧ D'.starts = D.starts ∧ Dk.size D'.L ≤ Dk.size D.L + 98 ∧
 ∃ F' Z', F ≤ F' ∧ F' + cnt Z' ≤ i ∧ (∀ K, KnwE K F Z D.L → Knw K F' Z' D'.L) ∧ (Lv F' Z' G' D' ∨ ∃ tl, Fell F' Z' tl D' ∧ D'.up = false)
theorem KnwE.knw (h : KnwE K F Z L) : Knw K F Z L := ⟨h.1, by rw [h.2]; exact List.prefix_refl _⟩
theorem nxt_same (h : Lv F Z G D) (hi : F + cnt Z ≤ i) : Nxt F Z D (i + 1) D G := ⟨rfl, rfl, by omega, F, Z, Nat.le_refl _, by omega, fun K hK => hK.knw, .inl h⟩
theorem nxt_fell {D1 : Dk.St} {F1 : Nat} {Z1 : List Sg} (ks : List Int) (e1 : D1.starts = D.starts) (e2 : D1.room = D.room) (hz : HasS F1 Z1 [] D1.L) (f0 : Z1 = [] → F1 = 0) (hl : D1.L.length = Z1.length) (hg : Gr F Z D.L F1 Z1 D1.L) (hi : F + cnt Z ≤ i) (G' : Lg) : Nxt F Z D (i + 1) (Dk.fall ks D1) G' := by
 obtain ⟨Z2, tl, q1, q2, q3, q4⟩ := fell_of hz f0 hl ks
 have hok : Dk.OkL D1.L := by
  rcases hz with ⟨_, _, q⟩ | ⟨A, z, _, q⟩
  ·exact q.ok
  ·exact q.ok
 have h1 := size_fall hok ks;have h2 := hg.size;have h3 := hg.num;have h4 := q2.length_le;rw [cnt_flat, cnt_flat] at h4;exact ⟨e2, e1, by omega, F1, Z2, hg.lo, by omega, fun K hK => (hg.knw hK).to q3 q4, .inr ⟨tl, q1, rfl⟩⟩
theorem Ocm.nxt (h : Ocm Y full F Z D r) (hi : F + cnt Z ≤ i) : Nxt F Z D (i + 1) r.2.1 r.2.2 := by
 rcases h with ⟨F', Z', s, L', q1, q2, q3, q4, q5, q6⟩ | ⟨_, s, L', q1, q2, q3, q4, q5⟩ | ⟨_, q1, ks, D1, F1, Z1, q2, q3, q4, q5, q6, q7, q8⟩
 ·have h2 := q5.num
  have h3 := q5.size;refine ⟨by rw [q2], by rw [q2], by rw [q2]; exact h3, F', Z', q5.lo, by omega, fun K hK => ?_, .inl q4⟩;rw [q2];exact q5.knw hK
 ·have h3 := q5.size
  refine ⟨by rw [q2], by rw [q2], by rw [q2]; exact h3, F, Z, Nat.le_refl _, by omega, fun K hK => ?_, .inl q4⟩;rw [q2];exact q5.knw hK
 ·rw [q2]
  exact nxt_fell ks q3 q4 q5 q6 q7 q8 hi _
theorem retain_nxt (h : Lv F Z G D) (n : Int) (hi : F + cnt Z ≤ i) : Nxt F Z D (i + 1) (retain6 n G D).2.1 (retain6 n G D).2.2 := by
 unfold retain6;rw [if_neg (by rw [h.state]; simp)];by_cases hn : n < 1
 ·rw [if_pos hn]
  exact nxt_same h hi
 rw [if_neg hn, h.gs];rcases retain_lv n.toNat (by omega) Z F G D h with ⟨F', Z', s, L', q1, q2, q3, q4, q5, q6, q7⟩ | ⟨_, q1, ks, D1, F1, Z1, q2, q3, q4, q5, q6, q7, q8⟩
 ·have h2 := q5.num
  have h3 := q5.size;refine ⟨by rw [q2], by rw [q2], by rw [q2]; show Dk.size L' ≤ _; omega, F', Z', q5.lo, by omega, fun K hK => ?_, .inl q4⟩;rw [q2];exact q5.gr.knw hK
 ·rw [q2]
  exact nxt_fell ks q3 q4 q5 q6 q7 q8.gr hi _
theorem fail_nxt (h : Lv F Z G D) (n : Int) (ks : List Int) (hi : F + cnt Z ≤ i) : Nxt F Z D (i + 1) (Dk.fail n ks D).2 G := by
 unfold Dk.fail;rw [if_neg (by rw [h.up]; simp)];by_cases hn : n < 0
 ·rw [if_pos hn]
  exact nxt_same h hi
 ·rw [if_neg hn]
  exact ⟨rfl, rfl, by show Dk.size D.L ≤ _; omega, F, Z, Nat.le_refl _, by omega, fun K hK => hK.knw, .inl ⟨h.hz, h.f0, h.gs, h.up, h.st, h.ov, h.len⟩⟩
theorem down_state (h : D.up = false) : state D G = 51 := by unfold Hl.state; rw [if_pos (.inr (.inl h))]
end
end Hl
section
open Hl
variable {w0 w w' : World} {b d : Nat} {D : Dk.St} {G : Lg} {R : List (Value × List M.Sp)} {F : Nat} {Z : List Sg} {i : Nat}
variable {room : Nat}
end
end
end Go.Proofs.YtmammmjmipgmoaaGreatDoor
