/- Layer 5: what acts leave as it was. -/
import Derived.Test.YtekmnpmeienhhaaDiskG
namespace Go.Proofs.Ytekmnpmeienhhaa
set_option linter.unusedVariables false
open Go Go.RowKit Go.Maps

namespace Dk
/-- Of one disk, started so often or once more. -/
structure Kin (D D' : St) : Prop where
  room : D'.room = D.room
  starts : D'.starts ≤ D.starts + 1
theorem Kin.rfl (D : St) : Kin D D := ⟨by exact Eq.refl _, Nat.le_succ _⟩
theorem kin_struck {D D0 : St} (h : D0.room = D.room ∧ D0.starts = D.starts) : Kin D (struck D0).2 := by
  rcases struck_cases D0 with ⟨_, e⟩ | ⟨_, _, e⟩ | ⟨_, _, _, e⟩ <;> rw [e]
  · exact ⟨h.1, by simp only; omega⟩
  · exact ⟨h.1, by unfold fall; simp only; omega⟩
  · exact ⟨h.1, by simp only; omega⟩
theorem kin_append (nm s : List UInt8) (D : St) : Kin D (append nm s D).2 ∧ ((append nm s D).1 = 50 → (append nm s D).2 = D) := by
  unfold append
  split
  · exact ⟨Kin.rfl D, fun _ => by exact Eq.refl _⟩
  · split
    · exact ⟨Kin.rfl D, fun _ => by exact Eq.refl _⟩
    · split
      · exact ⟨Kin.rfl D, fun _ => by exact Eq.refl _⟩
      · refine ⟨kin_struck ⟨by exact Eq.refl _, by exact Eq.refl _⟩, fun h => ?_⟩
        simp only at h
        split at h <;> cases h
theorem kin_two {D : St} {r : Bool × St} {L : List Fl} (h : Kin D r.2) : Kin D (if r.1 = true then ((51 : Int), r.2) else (0, { r.2 with L := L })).2 ∧ ((if r.1 = true then ((51 : Int), r.2) else (0, { r.2 with L := L })).1 = 50 → (if r.1 = true then ((51 : Int), r.2) else (0, { r.2 with L := L })).2 = D) := by
  cases r.1 with
  | true => exact ⟨h, fun h => by cases h⟩
  | false => exact ⟨⟨h.room, h.starts⟩, fun h => by cases h⟩
theorem kin_sync (nm : List UInt8) (D : St) : Kin D (sync nm D).2 ∧ ((sync nm D).1 = 50 → (sync nm D).2 = D) := by
  unfold sync
  split
  · exact ⟨Kin.rfl D, fun _ => by exact Eq.refl _⟩
  · split
    · exact ⟨Kin.rfl D, fun _ => by exact Eq.refl _⟩
    · exact kin_two (kin_struck ⟨by exact Eq.refl _, by exact Eq.refl _⟩)
theorem kin_remove (nm : List UInt8) (D : St) : Kin D (remove nm D).2 ∧ ((remove nm D).1 = 50 → (remove nm D).2 = D) := by
  unfold remove
  split
  · exact ⟨Kin.rfl D, fun _ => by exact Eq.refl _⟩
  · split
    · exact ⟨Kin.rfl D, fun _ => by exact Eq.refl _⟩
    · exact kin_two (kin_struck ⟨by exact Eq.refl _, by exact Eq.refl _⟩)
theorem kin_rename (a b : List UInt8) (D : St) : Kin D (rename a b D).2 ∧ ((rename a b D).1 = 50 → (rename a b D).2 = D) := by
  unfold rename
  split
  · exact ⟨Kin.rfl D, fun _ => by exact Eq.refl _⟩
  · split
    · exact ⟨Kin.rfl D, fun _ => by exact Eq.refl _⟩
    · split
      · exact ⟨Kin.rfl D, fun _ => by exact Eq.refl _⟩
      · exact kin_two (kin_struck ⟨by exact Eq.refl _, by exact Eq.refl _⟩)
theorem kin_crash (ks : List Int) (D : St) : Kin D (crash ks D).2 ∧ ((crash ks D).1 = 50 → (crash ks D).2 = D) := by
  unfold crash
  split
  · exact ⟨Kin.rfl D, fun _ => by exact Eq.refl _⟩
  · exact ⟨⟨by exact Eq.refl _, by unfold fall; simp only; omega⟩, fun h => by cases h⟩
theorem kin_fail (n : Int) (ks : List Int) (D : St) : Kin D (fail n ks D).2 ∧ ((fail n ks D).1 = 50 → (fail n ks D).2 = D) := by
  unfold fail
  split
  · exact ⟨Kin.rfl D, fun _ => by exact Eq.refl _⟩
  · split
    · exact ⟨Kin.rfl D, fun _ => by exact Eq.refl _⟩
    · exact ⟨⟨by exact Eq.refl _, by simp only; omega⟩, fun h => by cases h⟩
theorem kin_start (D : St) : Kin D (start D).2 ∧ ((start D).1 = 50 → (start D).2 = D) := by
  unfold start
  split
  · exact ⟨Kin.rfl D, fun _ => by exact Eq.refl _⟩
  · exact ⟨⟨by exact Eq.refl _, by simp only; omega⟩, fun h => by cases h⟩
theorem kin_act (r : Ra) (D : St) : Kin D (act r D).2 ∧ ((act r D).1 = 50 → (act r D).2 = D) := by
  unfold act
  split
  · exact kin_sync _ _
  · split
    · exact kin_rename _ _ _
    · split
      · exact kin_remove _ _
      · split
        · exact kin_crash _ _
        · split
          · exact kin_start _
          · split
            · exact kin_fail _ _ _
            · exact kin_append _ _ _
/-- Acts one behind the other. -/
def acts (L : List Ra) (D : St) : St := L.foldl (fun D r => (act r D).2) D
theorem acts_snoc (L : List Ra) (r : Ra) (D : St) : acts (L ++ [r]) D = (act r (acts L D)).2 := by unfold acts; rw [List.foldl_append]; rfl
theorem acts_take {L : List Ra} {k : Nat} (h : k < L.length) (D : St) : acts (L.take (k + 1)) D = (act (L.getD k ra0) (acts (L.take k) D)).2 := by
  rw [take_snoc5 L k h, acts_snoc]
  simp [List.getD, h]
theorem acts_kin (L : List Ra) (D : St) : (acts L D).room = D.room ∧ (acts L D).starts ≤ D.starts + L.length := by
  induction L generalizing D with
  | nil => exact ⟨rfl, Nat.le_refl _⟩
  | cons r L ih =>
    have h1 := (kin_act r D).1
    have h2 := ih (act r D).2
    unfold acts at *
    simp only [List.foldl_cons, List.length_cons]
    exact ⟨h2.1.trans h1.room, by have := h1.starts; omega⟩
end Dk
theorem DkX.newrow {X : Nat → Prop} {B d : Nat} {D : Dk.St} {w w' : World} (h : DkX X B d D w) (hb : Below w.heap.size w w') : DkX (fun q => X q ∨ (w.heap.size ≤ q ∧ q < w'.heap.size)) B d D w' :=
  (h.more (fun q hq => hq.elim .inl (fun e => .inr e.1))).below hb
theorem DkX.less {X X' : Nat → Prop} {B d : Nat} {D : Dk.St} {w : World} (h : DkX X B d D w) (hX : ∀ k, X' k → X k) : DkX X' B d D w := h.more (fun k hk => .inl (hX k hk))
/-- An act of a row that came in, as it is to be done. -/
structure ActAt (B : Nat) (w : World) (g o : Nat) (r : Ra) : Prop where
  at_ : RaAt w g o r
  lt : g < B
  keep : ∀ a, r.keep ≠ [] → r.o = some a → a.block < B
theorem actAt_of {W : World} {ao : Option Addr} {L : List Ra} (h : RasAt W ao L) {k : Nat} (hk : k < L.length) : ∃ g off, ao = some ⟨g, off, none⟩ ∧ ActAt W.heap.size W g (off + k * 6) (L.getD k ra0) := by
  obtain ⟨g, off, e, hc⟩ := h.off hk
  refine ⟨g, off, e, hc, cell_lt5 hc.1, fun a hn ha => ?_⟩
  obtain ⟨g', o', e', hc'⟩ := hc.2.2.2.2.2.2 hn
  rw [ha] at e'
  cases e'
  exact cell_lt5 (hc' 0 (List.length_pos_iff.2 hn))
theorem ActAt.below {B : Nat} {w w' : World} {g o : Nat} {r : Ra} (h : ActAt B w g o r) (hb : Below B w w') : ActAt B w' g o r := by
  obtain ⟨⟨h0, h1, h2, h3, h4, h5, h6⟩, hl, hk⟩ := h
  have c : ∀ j, w'.cell? ⟨g, j, none⟩ = w.cell? ⟨g, j, none⟩ := fun j => hb.cell (p := ⟨g, j, none⟩) hl
  refine ⟨⟨(c _).trans h0, (c _).trans h1, (c _).trans h2, (c _).trans h3, (c _).trans h4, (c _).trans h5, fun hn => ?_⟩, hl, hk⟩
  obtain ⟨g', o', e', hc'⟩ := h6 hn
  exact ⟨g', o', e', fun j hj => (hb.cell (p := ⟨g', o' + j, none⟩) (show g' < B from hk _ hn e')).trans (hc' j hj)⟩
theorem ActAt.done {X : Nat → Prop} {B d : Nat} {D : Dk.St} {w : World} {g o : Nat} {r : Ra} (h : ActAt B w g o r) (hd : DkX X B d D w) (hX : ∀ k, X k → k < w.heap.size) (hB : B ≤ w.heap.size) (hr : RaIn r) (hs : D.starts ≤ 1000000000) :
    Calls Try.prog 20 #[.pointer (some ⟨d, 0, none⟩), .agg #[.int .u8 r.kind, .string (S r.name), .string (S r.other), .string (S r.data), .int .i64 r.n, .slice r.o r.keep.length r.k]] w (OpX X B d (Dk.act r D) w) :=
  done5 hd hX hB r hr h.at_.2.2.2.2.2.2 (fun a hn ha => .inr (h.keep a hn ha)) hs
theorem ra_in5 {r : Ra} (h : RaI r) (hf : FewR r) : RaIn r :=
  ⟨h.kind, by have := hf.name; omega, by have := hf.other; omega, by have := hf.data; omega, h.n.2, h.keep.ks (by have := hf.keep; omega)⟩

end Go.Proofs.Ytekmnpmeienhhaa
