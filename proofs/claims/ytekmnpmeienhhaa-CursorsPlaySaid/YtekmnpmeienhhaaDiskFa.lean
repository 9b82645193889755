/- Layer 5: two disks side by side; one with a Fail, one without it. -/
import Derived.Test.YtekmnpmeienhhaaDiskCr
namespace Go.Proofs.Ytekmnpmeienhhaa
set_option linter.unusedVariables false
open Go Go.RowKit Go.Maps

namespace Dk
def wset (D : St) (p : Option (Nat × List Int)) : St := { D with set := p }
theorem wset_self {D : St} {p : Option (Nat × List Int)} (h : D.set = p) : wset D p = D := by subst h; rfl
/-- What an act does with a Fail that is set, by what it does without it. -/
structure Twin (k : Bool) (B : St) (f : St → Int × St) : Prop where
  no : (f B).1 ≠ 0 → (f B).2 = B ∧ ∀ p, f (wset B p) = ((f B).1, wset B p)
  set : (f B).2.set = none
  up : (f B).2.up = true
  more : (f B).1 = 0 → ∀ n ks, f (wset B (some (n + 1, ks))) = (0, wset (f B).2 (some (n, ks)))
  last : (f B).1 = 0 → ∀ ks, f (wset B (some (0, ks))) = (51, fall ks (if k then (f B).2 else B))
theorem struck_no {B : St} (h : B.set = none) : struck B = (false, B) := by unfold struck; rw [h]
theorem twin_append {B : St} (hs : B.set = none) (hu : B.up = true) (nm s : List UInt8) : Twin true B (append nm s) := by
  by_cases h1 : named nm = false
  · have e : ∀ p, append nm s (wset B p) = (2, wset B p) := fun p => by unfold append; rw [if_neg (by show ¬ B.up = false; rw [hu]; decide), if_pos h1]
    have e0 : append nm s B = (2, B) := by have := e none; rw [wset_self hs] at this; exact this
    refine ⟨fun _ => ⟨by rw [e0], fun p => by rw [e p, e0]⟩, by rw [e0]; exact hs, by rw [e0]; exact hu, fun h => ?_, fun h => ?_⟩ <;> (rw [e0] at h; cases h)
  by_cases h2 : (has nm B.L = false ∧ B.L.length = 1024) ∨ B.room < size B.L + s.length
  · have e : ∀ p, append nm s (wset B p) = (50, wset B p) := fun p => by unfold append; rw [if_neg (by show ¬ B.up = false; rw [hu]; decide), if_neg h1, if_pos (by exact h2)]
    have e0 : append nm s B = (50, B) := by have := e none; rw [wset_self hs] at this; exact this
    refine ⟨fun _ => ⟨by rw [e0], fun p => by rw [e p, e0]⟩, by rw [e0]; exact hs, by rw [e0]; exact hu, fun h => ?_, fun h => ?_⟩ <;> (rw [e0] at h; cases h)
  · have e : ∀ p, append nm s (wset B p) = (if (struck (wset { B with L := put ⟨nm, (get nm B.L).dat ++ s, (get nm B.L).safe⟩ B.L } p)).1 then 51 else 0, (struck (wset { B with L := put ⟨nm, (get nm B.L).dat ++ s, (get nm B.L).safe⟩ B.L } p)).2) := fun p => by unfold append; rw [if_neg (by show ¬ B.up = false; rw [hu]; decide), if_neg h1, if_neg (by exact h2)]; rfl
    have e0 : append nm s B = (0, { B with L := put ⟨nm, (get nm B.L).dat ++ s, (get nm B.L).safe⟩ B.L }) := by
      have := e none
      rw [wset_self hs, wset_self (D := { B with L := put ⟨nm, (get nm B.L).dat ++ s, (get nm B.L).safe⟩ B.L }) hs, struck_no (by exact hs)] at this
      exact this
    refine ⟨fun h => ?_, by rw [e0]; exact hs, by rw [e0]; exact hu, fun _ n ks => ?_, fun _ ks => ?_⟩
    · rw [e0] at h; exact absurd rfl h
    · rw [e, e0]; rfl
    · rw [e, e0]; rfl
/-- A change that comes behind the question whether the disk crashes. -/
theorem twin_of {B : St} (hs : B.set = none) (hu : B.up = true) (f : St → Int × St) (g : List Fl → List Fl)
    (hf : ∀ p, f (wset B p) = if (struck (wset B p)).1 = true then ((51 : Int), (struck (wset B p)).2) else (0, { (struck (wset B p)).2 with L := g B.L })) : Twin false B f := by
  have e0 : f B = (0, { B with L := g B.L }) := by
    have := hf none
    rw [wset_self hs, struck_no hs] at this
    exact this
  refine ⟨fun h => ?_, by rw [e0]; exact hs, by rw [e0]; exact hu, fun _ n ks => ?_, fun _ ks => ?_⟩
  · rw [e0] at h; exact absurd rfl h
  · rw [hf, e0]; rfl
  · rw [hf]; rfl
theorem twin_no {B : St} (hs : B.set = none) (hu : B.up = true) (f : St → Int × St) (e : Int) (he : e ≠ 0) (hf : ∀ p, f (wset B p) = (e, wset B p)) : Twin false B f := by
  have e0 : f B = (e, B) := by have := hf none; rw [wset_self hs] at this; exact this
  refine ⟨fun _ => ⟨by rw [e0], fun p => by rw [hf p, e0]⟩, by rw [e0]; exact hs, by rw [e0]; exact hu, fun h => ?_, fun h => ?_⟩ <;> (rw [e0] at h; exact absurd h he)
theorem twin_sync {B : St} (hs : B.set = none) (hu : B.up = true) (nm : List UInt8) : Twin false B (sync nm) := by
  by_cases h1 : has nm B.L = false
  · exact twin_no hs hu _ 4 (by decide) fun p => by unfold sync; rw [if_neg (by show ¬ B.up = false; rw [hu]; decide), if_pos (by exact h1)]
  · exact twin_of hs hu _ (fun L => put ⟨nm, (get nm B.L).dat, (get nm B.L).dat.length⟩ L) fun p => by
      unfold sync; rw [if_neg (by show ¬ B.up = false; rw [hu]; decide), if_neg (by exact h1)]
      show (if (struck (wset B p)).1 = true then ((51 : Int), (struck (wset B p)).2) else (0, { (struck (wset B p)).2 with L := put _ (wset B p).L })) = _
      rfl
theorem twin_remove {B : St} (hs : B.set = none) (hu : B.up = true) (nm : List UInt8) : Twin false B (remove nm) := by
  by_cases h1 : has nm B.L = false
  · exact twin_no hs hu _ 4 (by decide) fun p => by unfold remove; rw [if_neg (by show ¬ B.up = false; rw [hu]; decide), if_pos (by exact h1)]
  · exact twin_of hs hu _ (fun L => del nm L) fun p => by
      unfold remove; rw [if_neg (by show ¬ B.up = false; rw [hu]; decide), if_neg (by exact h1)]
      rfl
theorem twin_rename {B : St} (hs : B.set = none) (hu : B.up = true) (a b : List UInt8) : Twin false B (rename a b) := by
  by_cases h1 : has a B.L = false
  · exact twin_no hs hu _ 4 (by decide) fun p => by unfold rename; rw [if_neg (by show ¬ B.up = false; rw [hu]; decide), if_pos (by exact h1)]
  by_cases h2 : named b = false
  · exact twin_no hs hu _ 2 (by decide) fun p => by unfold rename; rw [if_neg (by show ¬ B.up = false; rw [hu]; decide), if_neg (by exact h1), if_pos h2]
  · exact twin_of hs hu _ (fun L => ren a b L) fun p => by
      unfold rename; rw [if_neg (by show ¬ B.up = false; rw [hu]; decide), if_neg (by exact h1), if_neg h2]
      rfl
theorem twin_act {B : St} (hs : B.set = none) (hu : B.up = true) (r : Ra) (h0 : 0 ≤ r.kind) (hk : r.kind % 12 ≤ 7) : Twin (decide (r.kind % 12 < 4)) B (act r) := by
  have h1 : 0 ≤ r.kind % 12 := Int.emod_nonneg _ (by decide)
  by_cases h4 : r.kind % 12 = 4 ∨ r.kind % 12 = 5
  · rw [show decide (r.kind % 12 < 4) = false from by simp; omega, show act r = sync r.name from funext fun D => by unfold act; rw [if_pos h4]]
    exact twin_sync hs hu _
  by_cases h6 : r.kind % 12 = 6
  · rw [show decide (r.kind % 12 < 4) = false from by simp; omega, show act r = rename r.name r.other from funext fun D => by unfold act; rw [if_neg h4, if_pos h6]]
    exact twin_rename hs hu _ _
  by_cases h7 : r.kind % 12 = 7
  · rw [show decide (r.kind % 12 < 4) = false from by simp; omega, show act r = remove r.name from funext fun D => by unfold act; rw [if_neg h4, if_neg h6, if_pos h7]]
    exact twin_remove hs hu _
  · rw [show decide (r.kind % 12 < 4) = true from by simp; omega, show act r = append r.name r.data from funext fun D => by unfold act; rw [if_neg h4, if_neg h6, if_neg h7, if_neg (by omega), if_neg (by omega), if_neg (by omega)]]
    exact twin_append hs hu _ _
/-- A disk that is running, all of it safe, no Fail set. -/
def ready (D : St) : St := if D.up then woke (fall (unsynced D.L) D) else woke D
theorem ready_up (D : St) : (ready D).up = true := by unfold ready; split <;> rfl
theorem ready_set {D : St} (h : Ok D) : (ready D).set = none := by
  unfold ready
  split
  · rfl
  · exact h.dn (by simpa using ‹¬ D.up = true›)
theorem ready_starts (D : St) : (ready D).starts = D.starts + 1 := by unfold ready; split <;> rfl
end Dk
theorem KsAt.base {B B' : Nat} {w : World} {ao : Option Addr} {cap : Nat} {ks : List Int} (h : KsAt B w ao cap ks) (hB : B' ≤ B) : KsAt B' w ao cap ks := fun hn => row_base5 (h hn) hB
theorem DkAt.base {B B' d : Nat} {F : Nat → Prop} {D : Dk.St} {w : World} (h : DkAt B F d D w) (hB : B' ≤ B) : DkAt B' F d D w := by
  obtain ⟨h0, mb, V, sv, c, h1, h2, h3⟩ := h
  refine ⟨h0, mb, V, sv, c, ⟨h1.box, h1.map, fun f hf => row_base5 (h1.row f hf) hB, h1.ap, ?_⟩, h2, fun b hb => ⟨Nat.le_trans hB (h3 b hb).1, (h3 b hb).2⟩⟩
  have hs := h1.set
  generalize D.set = o at *
  cases o with
  | none => exact hs
  | some p =>
    obtain ⟨n, ks⟩ := p
    obtain ⟨q1, q2, q3, q4, q5, q6⟩ := hs
    exact ⟨q1, q2, q3, q4, q5.base hB, q6⟩
/-- Two disks, and blocks that neither has. -/
def Two5 (P : Nat → Prop) (B a b : Nat) (Da Db : Dk.St) (w : World) : Prop := ∃ Fa Fb, DkAt B Fa a Da w ∧ DkAt B Fb b Db w ∧ (∀ k, Fa k → ¬ Fb k) ∧ (∀ k, P k → ¬ Fa k ∧ ¬ Fb k) ∧ (∀ k, P k → k < w.heap.size) ∧ B ≤ w.heap.size
section
variable {P P' X : Nat → Prop} {B a b : Nat} {Da Db : Dk.St} {w w' : World}
theorem DkAt.fp {F : Nat → Prop} {d : Nat} {D : Dk.St} (h : DkAt B F d D w) : ∀ k, F k → B ≤ k ∧ k < w.heap.size := by
  obtain ⟨h0, mb, V, sv, c, h1, h2, h3⟩ := h; exact h3
theorem Two5.swap (h : Two5 P B a b Da Db w) : Two5 P B b a Db Da w := by
  obtain ⟨Fa, Fb, h1, h2, h3, h4, h5, h6⟩ := h
  exact ⟨Fb, Fa, h2, h1, fun k hb ha => h3 k ha hb, fun k hk => ⟨(h4 k hk).2, (h4 k hk).1⟩, h5, h6⟩
theorem Two5.below (h : Two5 P B a b Da Db w) (hb : Below w.heap.size w w') : Two5 P B a b Da Db w' := by
  obtain ⟨Fa, Fb, h1, h2, h3, h4, h5, h6⟩ := h
  exact ⟨Fa, Fb, h1.below hb, h2.below hb, h3, h4, fun k hk => Nat.lt_of_lt_of_le (h5 k hk) hb.size, Nat.le_trans h6 hb.size⟩
theorem Two5.less (h : Two5 P B a b Da Db w) (hP : ∀ k, P' k → P k) : Two5 P' B a b Da Db w := by
  obtain ⟨Fa, Fb, h1, h2, h3, h4, h5, h6⟩ := h
  exact ⟨Fa, Fb, h1, h2, h3, fun k hk => h4 k (hP k hk), fun k hk => h5 k (hP k hk), h6⟩
theorem Two5.newrow (h : Two5 P B a b Da Db w) (hb : Below w.heap.size w w') : Two5 (fun q => P q ∨ (w.heap.size ≤ q ∧ q < w'.heap.size)) B a b Da Db w' := by
  obtain ⟨Fa, Fb, h1, h2, h3, h4, h5, h6⟩ := h
  have f1 := h1.fp
  have f2 := h2.fp
  refine ⟨Fa, Fb, h1.below hb, h2.below hb, h3, fun k hk => ?_, fun k hk => ?_, Nat.le_trans h6 hb.size⟩
  · rcases hk with hk | hk
    · exact h4 k hk
    · exact ⟨fun hf => by have := f1 k hf; omega, fun hf => by have := f2 k hf; omega⟩
  · rcases hk with hk | hk
    · exact Nat.lt_of_lt_of_le (h5 k hk) hb.size
    · exact hk.2
/-- The first of the two, as it is to be handed on. -/
theorem Two5.fst (h : Two5 P B a b Da Db w) : ∃ X, DkX X B a Da w ∧ (∀ k, X k → k < w.heap.size) ∧ B ≤ w.heap.size ∧
    ∀ D' w', DkX X B a D' w' → Wr (fun k => B ≤ k ∧ ¬ X k) w w' → Two5 P B a b D' Db w' ∧ Wr (fun k => B ≤ k ∧ ¬ P k) w w' := by
  obtain ⟨Fa, Fb, h1, h2, h3, h4, h5, h6⟩ := h
  have f2 := h2.fp
  refine ⟨fun k => Fb k ∨ P k, ⟨Fa, h1, fun k hk hx => hx.elim (h3 k hk) (fun hp => (h4 k hp).1 hk)⟩, fun k hk => hk.elim (fun q => (f2 k q).2) (h5 k), h6, fun D' w' o2' o4 => ?_⟩
  obtain ⟨F, o2, o3⟩ := o2'
  exact ⟨⟨F, Fb, o2, h2.wr o4 (fun k hk ha => ha.2 (.inl hk)), fun k hk hb => o3 k hk (.inl hb), fun k hk => ⟨fun hf => o3 k hf (.inr hk), (h4 k hk).2⟩, fun k hk => Nat.lt_of_lt_of_le (h5 k hk) o4.size, Nat.le_trans h6 o4.size⟩, o4.mono (fun k hk => .inl ⟨hk.1, fun hp => hk.2 (.inr hp)⟩)⟩
/-- .. to a call that only tells. -/
theorem Two5.tell (h : Two5 P B a b Da Db w) : ∃ X, DkX X B a Da w := by
  obtain ⟨X, h1, _⟩ := h.fst
  exact ⟨X, h1⟩
theorem Two5.ok (h : Two5 P B a b Da Db w) : Dk.Ok Da ∧ Dk.Ok Db := by
  obtain ⟨Fa, Fb, h1, h2, _⟩ := h
  exact ⟨h1.ok, h2.ok⟩
theorem two5_of {Ba Bb : Nat} (ha : DkX (fun _ => False) Ba a Da w) (hb : DkX (fun _ => False) Bb b Db w') (hbel : Below w.heap.size w w') (hB : w.heap.size ≤ Bb) (hBa : Ba ≤ w.heap.size) : Two5 (fun _ => False) Ba a b Da Db w' := by
  obtain ⟨Fa, h1, _⟩ := ha
  obtain ⟨Fb, h2, _⟩ := hb
  have f1 := h1.fp
  have f2 := h2.fp
  exact ⟨Fa, Fb, h1.below hbel, h2.base (Nat.le_trans hBa hB), fun k hk hk2 => by have := f1 k hk; have := f2 k hk2; omega, fun k hk => hk.elim, fun k hk => hk.elim, Nat.le_trans hBa hbel.size⟩
end
theorem ks_unsynced5 {D : Dk.St} (h : Dk.Ok D) : Dk.KsOk (Dk.unsynced D.L) := ⟨by simp [Dk.unsynced]; have := h.few; omega, fun x hx => by
  unfold Dk.unsynced at hx
  obtain ⟨f, hf, rfl⟩ := List.mem_map.1 hx
  have := h.l.safe f hf
  have := Nat.le_trans (Dk.mem_size h.l hf) (Nat.le_trans h.room h.most)
  omega⟩
set_option maxRecDepth 100000 in
theorem ready5 {X : Nat → Prop} {B d : Nat} {D : Dk.St} {w : World} (h : DkX X B d D w) (hX : ∀ k, X k → k < w.heap.size) (hB : B ≤ w.heap.size) (hs : D.starts ≤ 1000) :
    Calls Try.prog 38 #[.pointer (some ⟨d, 0, none⟩)] w fun e w' => e = .returned (.bool true) ∧ DkX X B d (Dk.ready D) w' ∧ Wr (fun k => B ≤ k ∧ ¬ X k) w w' := by
  have CU := upX h
  have HD := Lib.hid h
  have HX := Lib.hid hX
  have HO := Lib.hid h.ok
  clear h hX
  cases hup : D.up with
  | false =>
    have HR := Lib.hid (show Dk.ready D = Dk.woke D from by unfold Dk.ready; rw [hup]; rfl)
    have CS := startX HD.out HX.out hB (by omega)
    rw [Dk.start_down hup] at CS
    rw [hup] at CU
    have CS := Lib.hid CS
    have CU := Lib.hid CU
    clear hup
    go_enter Try.func38, Try.ntmps38
    go_wp2_with fail
    with_reducible refine CU.out.mono ?_
    rintro e w1 ⟨rfl, rfl⟩
    go_wp2_with fail
    with_reducible refine CS.out.mono ?_
    rintro e w1 ⟨rfl, hd, hw⟩
    have HQ := Lib.hid hd
    have HW := Lib.hid hw
    clear hd hw
    go_wp2_with fail
    go_ret
    exact ⟨rfl, by rw [HR.out]; exact HQ.out, HW.out⟩
  | true =>
    have HR := Lib.hid (show Dk.ready D = Dk.woke (Dk.fall (Dk.unsynced D.L) D) from by unfold Dk.ready; rw [hup]; rfl)
    have C1 := Lib.hid (unsyncedX HD.out)
    rw [hup] at CU
    have CU := Lib.hid CU
    have HUP := Lib.hid hup
    clear hup
    go_enter Try.func38, Try.ntmps38
    go_wp2_with fail
    with_reducible refine CU.out.mono ?_
    rintro e w1 ⟨rfl, rfl⟩
    go_wp2_with fail
    with_reducible refine C1.out.mono ?_
    rintro e w1 ⟨lo, lc, rfl, hr, hb⟩
    have hk := nsK_row hr
    have CC := crashX (HD.out.newrow hb) (fun k hk => hk.elim (fun q => Nat.lt_of_lt_of_le (HX.out k q) hb.size) (fun q => q.2)) (Nat.le_trans hB hb.size) (Dk.unsynced D.L) lo lc (ks_unsynced5 HO.out) hk.1 (fun a hn ha => .inl (.inr (hk.2 a hn ha)))
    rw [Dk.crash_up _ HUP.out] at CC
    have CC := Lib.hid CC
    have HB1 := Lib.hid hb
    clear hr hb hk C1
    go_wp2_with fail
    with_reducible refine CC.out.mono ?_
    rintro e w2 ⟨rfl, hd, hw⟩
    have hd2 := hd.less (X' := X) (fun k hk => .inl hk)
    have HW := Lib.hid (show Wr (fun k => B ≤ k ∧ ¬ X k) w w2 from (wr_below HB1.out).trans (hw.mono (fun k hk => .inl ⟨hk.1, fun hx => hk.2 (.inl hx)⟩)))
    have CS := startX hd2 (fun k hk => Nat.lt_of_lt_of_le (HX.out k hk) HW.out.size) (Nat.le_trans hB HW.out.size) (by show D.starts ≤ _; omega)
    rw [Dk.start_down (Dk.fall_up _ D)] at CS
    have CS := Lib.hid CS
    clear hd hw hd2 CC
    go_wp2_with fail
    with_reducible refine CS.out.mono ?_
    rintro e w3 ⟨rfl, hd, hw⟩
    have HQ := Lib.hid hd
    have HW3 := Lib.hid (HW.out.trans hw)
    clear hd hw
    go_wp2_with fail
    go_ret
    exact ⟨rfl, by rw [HR.out]; exact HQ.out, HW3.out⟩

end Go.Proofs.Ytekmnpmeienhhaa
