/- Layer 5: the closure of a Fail; struck. -/
import Derived.Test.YtekmnpmeienhhaaDiskQ
namespace Go.Proofs.Ytekmnpmeienhhaa
set_option linter.unusedVariables false
open Go Go.RowKit Go.Maps

section
variable {B d mb : Nat} {V : List UInt8 → Value} {sv : Value} {c : Cs} {D : Dk.St} {w w' : World} {F : Nat → Prop}
theorem DkCo.not (h : DkCo B d mb V sv D w) {C : Array Value} {T : TypeId} {b : Nat} (hb : Bk C T w b) (hT : T ≠ 43) (hT' : T ≠ 5) : ¬ Fc d mb V D.L b := by
  rintro (rfl | rfl | ⟨f, hf, hq⟩)
  · have h7 := h.box
    unfold Bk at hb h7
    rw [hb] at h7
    simp at h7
    exact hT h7.2
  · exact map_bk5 h.map hb rfl
  · exact bk_row hb (h.row f hf) hT' _ hq rfl
/-- What 'struck' comes to. -/
def StrR (B d mb : Nat) (V : List UInt8 → Value) (c : Cs) (D : Dk.St) (w : World) (e : Ending) (w' : World) : Prop :=
  e = .returned (.bool (Dk.struck D).1) ∧ (∃ V' sv', DkIn B d mb V' sv' c (Dk.struck D).2 w' ∧ (∀ nm, (V' nm).ownBlock = (V nm).ownBlock) ∧ ((Dk.struck D).1 = false → V' = V)) ∧ Wr (fun q => q = d ∨ q = mb ∨ (D.set ≠ none ∧ q = c.n)) w w'
set_option maxRecDepth 100000 in
theorem closure_go5 (hI : DkIn B d mb V sv c D w) {n : Nat} {ks : List Int} (hs : D.set = some (n + 1, ks)) (hn : ((n + 1 : Nat) : Int) ≤ 9223372036854775807) :
    Calls Try.prog 75 #[.pointer (some ⟨c.n, 0, none⟩), .pointer (some ⟨c.d, 0, none⟩), .pointer (some ⟨c.k, 0, none⟩)] w (StrR B d mb V c D w) := by
  have hset := hI.set
  have hco := hI.co
  rw [hs] at hset
  obtain ⟨h1, h2, h3, h4, h5, h6⟩ := hset
  have x0 : w.cell? ⟨c.n, 0, none⟩ = some (.int .i64 ((n + 1 : Nat) : Int)) := h2.cell 0
  have x1 : ∀ j, w.frozen? ⟨c.n, j, none⟩ = false := fun j => h2.free j
  have hne := hco.not h2 (by decide) (by decide)
  have hst : Dk.struck D = (false, { D with set := some (n, ks) }) := by unfold Dk.struck; rw [hs]
  have HF : Hid (StrR B d mb V c D w (.returned (.bool false)) (w.setCell ⟨c.n, 0, none⟩ (.int .i64 n))) := Lib.hid (by
    have hw : Wr (fun q => q = c.n) w (w.setCell ⟨c.n, 0, none⟩ (.int .i64 n)) := wr_set _ _ _ rfl
    have hdn : c.d ≠ c.n := fun e => by unfold Bk at h2 h3; rw [e, h2] at h3; simp at h3
    have hkn : c.k ≠ c.n := fun e => by unfold Bk at h2 h4; rw [e, h2] at h4; simp at h4
    refine ⟨by rw [hst], ⟨V, sv, ?_, fun _ => rfl, fun _ => rfl⟩, hw.mono (fun x hx => .inl (.inr (.inr ⟨by rw [hs]; simp, hx⟩)))⟩
    rw [hst]
    have hc2 := hco.wr hw (fun b hb e => hne (e ▸ hb))
    exact ⟨hc2.box, hc2.map, hc2.row, hc2.ap, ⟨h1, h2.set 0 _, h3.wr hw hdn, h4.wr hw hkn, h5.wr hw (fun a hn ha => h6 a hn ha), h6⟩⟩)
  clear hI hco hst hne h1 h2 h3 h4 h5 h6
  have e1 : ((n + 1 : Nat) : Int) - 1 = (n : Int) := by omega
  have e2 : (0 : Int) ≤ (n : Int) := by omega
  go_enter Try.func75, Try.ntmps75
  go_wp2_with fail
  go_ret
  exact HF.out
theorem KsAt.ns {ao : Option Addr} {cap : Nat} {ks : List Int} (h : KsAt B w ao cap ks) : NsA5 w ao ks := fun hn => nsA_row5 (h hn) hn
set_option maxRecDepth 100000 in
theorem closure_fall5 (hI : DkIn B d mb V sv c D w) (hBd : B ≤ d) (hBm : B ≤ mb) (hO : Dk.Ok D) {ks : List Int} (hs : D.set = some (0, ks)) :
    Calls Try.prog 75 #[.pointer (some ⟨c.n, 0, none⟩), .pointer (some ⟨c.d, 0, none⟩), .pointer (some ⟨c.k, 0, none⟩)] w (StrR B d mb V c D w) := by
  have hset := hI.set
  have hco := hI.co
  rw [hs] at hset
  obtain ⟨h1, h2, h3, h4, h5, h6⟩ := hset
  have x0 : w.cell? ⟨c.n, 0, none⟩ = some (.int .i64 ((0 : Nat) : Int)) := h2.cell 0
  have x1 : ∀ j, w.frozen? ⟨c.n, j, none⟩ = false := fun j => h2.free j
  have hne := hco.not h2 (by decide) (by decide)
  have hst : Dk.struck D = (true, Dk.fall ks D) := by unfold Dk.struck; rw [hs]
  have hw : Wr (fun q => q = c.n) w (w.setCell ⟨c.n, 0, none⟩ (.int .i64 (-1))) := wr_set _ _ _ rfl
  have hdn : c.d ≠ c.n := fun e => by unfold Bk at h2 h3; rw [e, h2] at h3; simp at h3
  have hkn : c.k ≠ c.n := fun e => by unfold Bk at h2 h4; rw [e, h2] at h4; simp at h4
  have hc2 := hco.wr hw (fun b hb e => hne (e ▸ hb))
  have hd2 := h3.wr hw hdn
  have hk2 := h4.wr hw hkn
  have hks2 := h5.wr hw (fun a hn ha => h6 a hn ha)
  have hkd : ∀ a, ks ≠ [] → c.a = some a → a.block ≠ d := fun a hn ha e => by
    have hr := hks2 hn
    exact bk_row hc2.box hr (by decide) a.block (by rw [ha]; rfl) e
  have CF := Lib.hid (fall5 hc2 hBd hBm hO.l hO.room hO.most hO.few ks c.a c.c (hO.k _ hs) hks2.ns hkd)
  have HSN := Lib.hid (show D.set ≠ none from by rw [hs]; simp)
  have HST := Lib.hid hst
  have HW := Lib.hid hw
  clear hI hco hst hne h1 h2 h3 h4 h5 h6 hks2 hkd hs
  generalize hw1 : (w.setCell ⟨c.n, 0, none⟩ (.int .i64 (-1))) = w1 at *
  have c0 : w1.cell? ⟨c.d, 0, none⟩ = some (.pointer (some ⟨d, 0, none⟩)) := hd2.cell 0
  have k0 : w1.cell? ⟨c.k, 0, none⟩ = some (.slice c.a ks.length c.c) := hk2.cell 0
  have n0 : w1.cell? ⟨c.n, 0, none⟩ = some (.int .i64 (-1)) := by rw [← hw1]; exact World.cell?_setCell_same _ _ _ x0
  clear hd2 hk2 hdn hkn hc2 hw
  go_enter Try.func75, Try.ntmps75
  go_wp2_with fail
  with_reducible refine CF.out.mono ?_
  rintro e w2 ⟨rfl, ⟨V', hC', hV'⟩, hw'⟩
  have HC := Lib.hid hC'
  have HV := Lib.hid hV'
  have HW2 := Lib.hid hw'
  clear hC' hV' hw' hw1 c0 k0 n0
  go_wp2_with fail
  go_ret
  refine ⟨by rw [HST.out]; rfl, ⟨V', .nilFunc, by rw [HST.out]; exact HC.out.in rfl, HV.out, fun h => by rw [HST.out] at h; cases h⟩, ?_⟩
  exact (HW.out.mono (fun x hx => .inl (.inr (.inr ⟨HSN.out, hx⟩)))).step HW2.out (fun x hx => .inl (hx.elim .inl (fun e => .inr (.inl e))))
set_option maxRecDepth 100000 in
theorem struck5 (hI : DkIn B d mb V sv c D w) (hBd : B ≤ d) (hBm : B ≤ mb) (hO : Dk.Ok D) : Calls Try.prog 72 #[.pointer (some ⟨d, 0, none⟩)] w (StrR B d mb V c D w) := by
  have c5 : w.cell? ⟨d, 5, none⟩ = some sv := hI.box.cell 5
  have hfn := fun W f a c => run_neq_func_nil5 (P := Try.prog) W _ Try.underlying31 f a c
  have hnn := fun W => run_neq_nil_nil5 (P := Try.prog) W _ Try.underlying31
  cases hset : D.set with
  | none =>
    have hs := hI.set
    rw [hset] at hs
    have hs2 : sv = .nilFunc := hs
    subst hs2
    have HF := Lib.hid (show StrR B d mb V c D w (.returned (.bool false)) w from by
      have hst : Dk.struck D = (false, D) := by unfold Dk.struck; rw [hset]
      exact ⟨by rw [hst], ⟨V, .nilFunc, by rw [hst]; exact hI, fun _ => rfl, fun _ => rfl⟩, Wr.refl _ _⟩)
    clear hI hs hset hfn
    go_enter Try.func72, Try.ntmps72
    go_wp2_with fail
    go_ret
    exact HF.out
  | some p =>
    obtain ⟨n, ks⟩ := p
    have CC := Lib.hid (show Calls Try.prog 75 #[.pointer (some ⟨c.n, 0, none⟩), .pointer (some ⟨c.d, 0, none⟩), .pointer (some ⟨c.k, 0, none⟩)] w (StrR B d mb V c D w) from by
      cases n with
      | zero => exact closure_fall5 hI hBd hBm hO hset
      | succ n => exact closure_go5 hI hset (by have h9 := hO.n _ hset; simp only at h9; exact h9))
    have hs := hI.set
    rw [hset] at hs
    have hs2 : sv = csV c := hs.1
    unfold csV at hs2
    subst hs2
    clear hI hs hset hnn hO
    go_enter Try.func72, Try.ntmps72
    go_wp2_with fail
    with_reducible refine CC.out.mono ?_
    rintro e w1 ⟨rfl, hR, hw⟩
    have HR := Lib.hid hR
    have HW := Lib.hid hw
    clear hR hw
    go_wp2_with fail
    go_ret
    exact ⟨rfl, HR.out, HW.out⟩
end

end Go.Proofs.Ytekmnpmeienhhaa
