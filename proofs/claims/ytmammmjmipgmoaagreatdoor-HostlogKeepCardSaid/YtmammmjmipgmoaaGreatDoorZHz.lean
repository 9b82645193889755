/- Texts of lower layers, as one. -/
import Derived.Test.YtmammmjmipgmoaaGreatDoorZHt
import Derived.Test.YtmammmjmipgmoaaGreatDoorZW
/- Layer 6: two logs of one disk, side by side. -/
namespace Go.Proofs.YtmammmjmipgmoaaGreatDoor
set_option linter.unusedVariables false
open Go Go.RowKit Go.Maps

namespace Hl
theorem open_again {F : Nat} {Z : List Sg} {G : Lg} {D : Dk.St} (h : Lv F Z G D) : openR Z [] D = (0, D) := by
  unfold openR
  rw [if_neg (by rw [h.up]; simp)]
  show Dk.next_ (Dk.clear nD D) (Dk.run [mendT _ (decide (([] : List UInt8) ≠ []))]) = _
  unfold Dk.clear
  rw [if_neg (by rw [nod_of h.hz h.len]; simp), Dk.next_zero, run_one]
  rfl
end Hl
section
open Hl
variable {w0 w w' : World} {b b' d : Nat} {D : Dk.St} {G : Lg} {no so : Option Addr} {nl : List (List UInt8)} {sl : List Int} {F : Nat} {Z : List Sg}
/-- A log beside a row of texts, and one of numbers. -/
def Kt6 (w0 : World) (b d : Nat) (no so : Option Addr) (nl : List (List UInt8)) (sl : List Int) (D : Dk.St) (G : Lg) (W : World) : Prop :=
  ∃ X, HgX X w0.heap.size b d D G W ∧ (∀ k, X k → k < W.heap.size) ∧ Below w0.heap.size w0 W ∧ TsK X W no nl ∧ NsK X W so sl
theorem Kt6.of (h : Kept6 w0 b d [] D G w) : Kt6 w0 b d none none [] [] D G w := by
  obtain ⟨X, h1, h2, h3, _⟩ := h
  exact ⟨X, h1, h2, h3, ⟨fun q => absurd rfl q, fun a q => absurd rfl q⟩, ⟨fun q => absurd rfl q, fun a q => absurd rfl q⟩⟩
theorem Kt6.below (h : Kt6 w0 b d no so nl sl D G w) (hb : Below w.heap.size w w') : Kt6 w0 b d no so nl sl D G w' := by
  obtain ⟨X, h1, h2, h3, h4, h5⟩ := h
  exact ⟨X, h1.below hb, fun k hk => Nat.lt_of_lt_of_le (h2 k hk) hb.size, below_step h3 hb, h4.below hb, h5.below hb⟩
theorem Kt6.hg (h : Kt6 w0 b d no so nl sl D G w) : ∃ X, HgX X w0.heap.size b d D G w := by obtain ⟨X, h1, _⟩ := h; exact ⟨X, h1⟩
theorem Kt6.dk (h : Kt6 w0 b d no so nl sl D G w) : ∃ X, DkX X w0.heap.size d D w := by obtain ⟨X, ⟨vs, P, h1, h2, _⟩, _⟩ := h; exact ⟨_, h2⟩
theorem Kt6.texts {l : List (List UInt8)} {ao : Option Addr} {cap : Nat} (h : Kt6 w0 b d no so nl sl D G w) (hb : Below w.heap.size w w') (hr : w'.ownsRow w.heap.size 9 1 (.slice ao l.length cap) l.length (txs5 l)) : Kt6 w0 b d ao so l sl D G w' := by
  obtain ⟨X, h1, h2, h3, h4, h5⟩ := h
  refine ⟨fun k => X k ∨ (w.heap.size ≤ k ∧ k < w'.heap.size), h1.newrow hb, fun k hk => ?_, below_step h3 hb, (tsK_row hr).mono (fun q hq => .inr hq), (h5.below hb).mono (fun q hq => .inl hq)⟩
  rcases hk with q | q
  · exact Nat.lt_of_lt_of_le (h2 k q) hb.size
  · exact q.2
theorem Kt6.ints {l : List Int} {ao : Option Addr} {cap : Nat} (h : Kt6 w0 b d no so nl sl D G w) (hb : Below w.heap.size w w') (hr : w'.ownsRow w.heap.size 3 1 (.slice ao l.length cap) l.length (ints5 l)) : Kt6 w0 b d no ao nl l D G w' := by
  obtain ⟨X, h1, h2, h3, h4, h5⟩ := h
  refine ⟨fun k => X k ∨ (w.heap.size ≤ k ∧ k < w'.heap.size), h1.newrow hb, fun k hk => ?_, below_step h3 hb, (h4.below hb).mono (fun q hq => .inl hq), (nsK_row hr).mono (fun q hq => .inr hq)⟩
  rcases hk with q | q
  · exact Nat.lt_of_lt_of_le (h2 k q) hb.size
  · exact q.2
/-- Two logs of one disk, beside the two rows; nothing is written any more. -/
def Pr6 (w0 : World) (b b' d : Nat) (no so : Option Addr) (nl : List (List UInt8)) (sl : List Int) (D : Dk.St) (G : Lg) (W : World) : Prop :=
  (∃ X, HgX X w0.heap.size b d D G W) ∧ (∃ X, HgX X w0.heap.size b' d D G W) ∧ Below w0.heap.size w0 W ∧ TsA5 W no nl ∧ NsA5 W so sl
theorem Pr6.below (h : Pr6 w0 b b' d no so nl sl D G w) (hb : Below w.heap.size w w') : Pr6 w0 b b' d no so nl sl D G w' := by
  obtain ⟨⟨X, h1⟩, ⟨Y, h2⟩, h3, h4, h5⟩ := h
  exact ⟨⟨X, h1.below hb⟩, ⟨Y, h2.below hb⟩, below_step h3 hb, h4.below hb, h5.below hb⟩
theorem Kt6.open2 (h : Kt6 w0 b d no so nl sl D G w) (hl : Lv F Z G D) (hst : D.starts ≤ 1000000000) (hG : G = ⟨D.starts, false, Z.map smOf⟩) :
    Calls Tryz.prog 18 #[.pointer (some ⟨d, 0, none⟩)] w fun e w' => ∃ b', e = .returned (.tuple #[.pointer (some ⟨b', 0, none⟩), .int .i64 0]) ∧ Pr6 w0 b b' d no so nl sl D G w' := by
  obtain ⟨X, ⟨vs, P, q1, q2, q3, q4, q5⟩, h2, h3, h4, h5⟩ := h
  have hX : ∀ k, X k ∨ LgF b vs P k → k < w.heap.size := fun k hk => hk.elim (h2 k) (fun q => (q1.lt k q).2)
  refine (open6_any q2 hX h3.size q4 q5 hst Z [] (hl.hz.load hl.up) (fun q => absurd rfl q)).mono fun e w' ⟨hw, ho⟩ => ?_
  rw [open_again hl] at ho
  rcases ho with ⟨e1, _⟩ | ⟨_, b', e2, e3, e4⟩
  · exact absurd rfl e1
  refine ⟨b', e2, ⟨X, vs, P, q1.wr hw (fun k hk z => z.2 (.inr hk)), ?_, q3, e4.vr, q5⟩, ⟨_, by rw [hG]; exact e4⟩, h3.trans (hw.below (fun k hk => hk.1) h3.size), (h4.wr hw (fun k hk z => z.2 (.inl hk))).1, (h5.wr hw (fun k hk z => z.2 (.inl hk))).1⟩
  obtain ⟨vs', P', _, r2, _⟩ := e4
  exact r2.less (fun k hk => .inl hk)
end

end Go.Proofs.YtmammmjmipgmoaaGreatDoor
