/- Layer 5: a disk's box, map and rows without its closure; a file that is put, and one that goes. -/
import Derived.Test.YtekmnpmeienhhaaDiskN
namespace Go.Proofs.Ytekmnpmeienhhaa
set_option linter.unusedVariables false
open Go Go.RowKit Go.Maps

structure DkCo (B d mb : Nat) (V : List UInt8 → Value) (sv : Value) (D : Dk.St) (w : World) : Prop where
  box : Bk (dkC D mb sv) 43 w d
  map : w.ownsMap Try.prog 9 heldR mb D.L.length (datM V D.L)
  row : ∀ f ∈ D.L, w.ownsRow B 5 1 (V f.name) f.dat.length (bts f.dat)
  ap : ∀ f ∈ D.L, ∀ g ∈ D.L, f.name ≠ g.name → ∀ q, (V f.name).ownBlock = some q → (V g.name).ownBlock ≠ some q
/-- The blocks of it. -/
def Fc (d mb : Nat) (V : List UInt8 → Value) (L : List Dk.Fl) (b : Nat) : Prop := b = d ∨ b = mb ∨ ∃ f ∈ L, (V f.name).ownBlock = some b
theorem map_tight5 {H : Type} {P : Program} {k : TypeId} {R : Value → Option (DataW H × List MemPlace)} {w : World} {b n : Nat} {D : DataW H} (h : w.ownsMap P k R b n D) {m : Nat} (hm : Maps.size D ≤ m) : w.ownsMap P k R b m D := by
  obtain ⟨es, clock, hb, F, hs, rfl⟩ := h
  exact ⟨es, clock, hb, F, by simpa [Maps.size, length_sorted] using hm, rfl⟩
section
variable {B d mb : Nat} {V : List UInt8 → Value} {sv sv' : Value} {c : Cs} {D : Dk.St} {w w' : World} {A F : Nat → Prop}
theorem DkIn.co (h : DkIn B d mb V sv c D w) : DkCo B d mb V sv D w := ⟨h.box, h.map, h.row, h.ap⟩
theorem DkCo.in (h : DkCo B d mb V sv D w) (hs : SetAt B d sv c w D.set) : DkIn B d mb V sv c D w := ⟨h.box, h.map, h.row, h.ap, hs⟩
theorem DkCo.wr (h : DkCo B d mb V sv D w) (hw : Wr A w w') (hA : ∀ b, Fc d mb V D.L b → ¬ A b) : DkCo B d mb V sv D w' :=
  ⟨h.box.wr hw (hA _ (.inl rfl)), map_wr h.map hw (hA _ (.inr (.inl rfl))), fun f hf => row_wr (h.row f hf) hw (fun q hq => hA _ (.inr (.inr ⟨f, hf, hq⟩))), h.ap⟩
theorem DkCo.below (h : DkCo B d mb V sv D w) (hb : Below w.heap.size w w') : DkCo B d mb V sv D w' := h.wr (A := fun _ => False) (wr_below hb) (fun _ _ q => q)
theorem DkCo.ne (h : DkCo B d mb V sv D w) : mb ≠ d := map_bk5 h.map h.box
theorem DkCo.rne (h : DkCo B d mb V sv D w) {f : Dk.Fl} (hf : f ∈ D.L) {q : Nat} (hq : (V f.name).ownBlock = some q) : q ≠ d ∧ q ≠ mb ∧ B ≤ q ∧ q < w.heap.size :=
  ⟨bk_row h.box (h.row f hf) (by decide) q hq, map_row5 h.map (h.row f hf) q hq, (h.row f hf).lt q hq⟩
/-- Another box: what is not the map, nor the files. -/
theorem DkCo.boxed (h : DkCo B d mb V sv D w) (hw : Wr (fun q => q = d) w w') {D' : Dk.St} (hL : D'.L = D.L) (hb : Bk (dkC D' mb sv') 43 w' d) : DkCo B d mb V sv' D' w' := by
  refine ⟨hb, ?_, ?_, ?_⟩
  · rw [hL]; exact map_wr h.map hw h.ne
  · rw [hL]; exact fun f hf => row_wr (h.row f hf) hw (fun q hq => (h.rne hf hq).1)
  · rw [hL]; exact h.ap
/-- A file is put. -/
theorem DkCo.putW (h : DkCo B d mb V sv D w) {f : Dk.Fl} {v : Value} (hw : Wr A w w') (hA : ∀ g ∈ D.L, g.name ≠ f.name → ∀ q, (V g.name).ownBlock = some q → ¬ A q)
    (hbox : Bk (dkC { D with L := Dk.put f D.L } mb sv') 43 w' d) {n : Nat} (hmap : w'.ownsMap Try.prog 9 heldR mb n (datM (upV V f.name v) (Dk.put f D.L)))
    (hrow : w'.ownsRow B 5 1 v f.dat.length (bts f.dat)) (hap : ∀ g ∈ D.L, g.name ≠ f.name → ∀ q, v.ownBlock = some q → (V g.name).ownBlock ≠ some q) :
    DkCo B d mb (upV V f.name v) sv' { D with L := Dk.put f D.L } w' := by
  refine ⟨hbox, map_tight5 hmap (by rw [datM_size]; exact Nat.le_refl _), fun g hg => ?_, fun g hg g' hg' hne q hq hq' => ?_⟩
  · rcases Dk.mem_put.1 hg with rfl | ⟨hg, hn⟩
    · rw [upV_same]; exact hrow
    · rw [upV_other V v hn]
      exact row_wr (h.row g hg) hw (hA g hg hn)
  · rcases Dk.mem_put.1 hg with e1 | ⟨hm, hn⟩
    · rcases Dk.mem_put.1 hg' with e2 | ⟨hm', hn'⟩
      · exact hne (e1.trans e2.symm ▸ rfl)
      · rw [e1, upV_same] at hq
        rw [upV_other V v hn'] at hq'
        exact hap g' hm' hn' q hq hq'
    · rw [upV_other V v hn] at hq
      rcases Dk.mem_put.1 hg' with e2 | ⟨hm', hn'⟩
      · rw [e2, upV_same] at hq'
        exact hap g hm hn q hq' hq
      · rw [upV_other V v hn'] at hq'
        exact h.ap g hm g' hm' hne q hq hq'
/-- A file goes. -/
theorem DkCo.delW (h : DkCo B d mb V sv D w) {nm : List UInt8} (hw : Wr (fun q => q = d ∨ q = mb) w w')
    (hbox : Bk (dkC { D with L := Dk.del nm D.L } mb sv) 43 w' d) {n : Nat} (hmap : w'.ownsMap Try.prog 9 heldR mb n (datM V (Dk.del nm D.L))) : DkCo B d mb V sv { D with L := Dk.del nm D.L } w' := by
  refine ⟨hbox, map_tight5 hmap (by rw [datM_size]; exact Nat.le_refl _), fun g hg => ?_, fun g hg g' hg' => h.ap g (Dk.mem_del.1 hg).1 g' (Dk.mem_del.1 hg').1⟩
  have hg := (Dk.mem_del.1 hg).1
  exact row_wr (h.row g hg) hw (fun q hq => by
    obtain ⟨h1, h2, _⟩ := h.rne hg hq
    rintro (e | e)
    · exact h1 e
    · exact h2 e)
/-- The closure's blocks are none of the disk's others. -/
theorem DkIn.setW (h : DkIn B d mb V sv c D w) (hw : Wr A w w') (hA : ∀ q, A q → q = d ∨ q = mb ∨ (∃ f ∈ D.L, (V f.name).ownBlock = some q) ∨ w.heap.size ≤ q) : SetAt B d sv c w' D.set := by
  have hs := h.set
  have hc := h.co
  generalize D.set = o at *
  cases o with
  | none => exact hs
  | some p =>
    obtain ⟨n, ks⟩ := p
    obtain ⟨h1, h2, h3, h4, h5, h6⟩ := hs
    have key : ∀ {C : Array Value} {T : TypeId} {b : Nat}, Bk C T w b → T ≠ 43 → T ≠ 5 → ¬ A b := fun {C T b} hb hT hT' ha => by
      rcases hA b ha with rfl | rfl | ⟨f, hf, hq⟩ | hl
      · have h7 := h.box
        unfold Bk at hb h7
        rw [hb] at h7
        simp at h7
        exact hT h7.2
      · exact map_bk5 h.map hb rfl
      · exact bk_row hb (h.row f hf) hT' _ hq rfl
      · have := hb.lt; omega
    refine ⟨h1, h2.wr hw (key h2 (by decide) (by decide)), h3.wr hw (key h3 (by decide) (by decide)), h4.wr hw (key h4 (by decide) (by decide)), h5.wr hw (fun a hn ha => ?_), h6⟩
    intro hx
    have hr := h5 hn
    rw [ha] at hr
    rcases hr.2 with ⟨e, _⟩ | ⟨g, cap, cur, e, _, hg, _⟩
    · cases e
    · injection e with e1
      injection e1 with e1
      subst e1
      have hb : w.heap[g]? = some (.cells cur 3 (0, 0)) := hg
      exact key (C := cur) (T := 3) (b := g) hb (by decide) (by decide) hx
end

end Go.Proofs.Ytekmnpmeienhhaa
