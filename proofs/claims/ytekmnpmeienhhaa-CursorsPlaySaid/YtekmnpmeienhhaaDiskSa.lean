/- Layer 5: a file is put into a disk, another way: what stands in memory behind it. -/
import Derived.Test.YtekmnpmeienhhaaDiskS
namespace Go.Proofs.Ytekmnpmeienhhaa
set_option linter.unusedVariables false
open Go Go.RowKit Go.Maps

section
variable {B d mb : Nat} {V : List UInt8 → Value} {sv : Value} {c : Cs} {D : Dk.St} {w w' : World} {A F : Nat → Prop}
theorem vOf_block {L : List Dk.Fl} {nm : List UInt8} {q : Nat} (h : (vOf V nm L).ownBlock = some q) : ∃ g ∈ L, g.name = nm ∧ (V g.name).ownBlock = some q := by
  unfold vOf at h
  cases hh : Dk.has nm L with
  | false => rw [hh] at h; cases h
  | true =>
    rw [hh] at h
    obtain ⟨g, hg, rfl⟩ := Dk.has_iff.1 hh
    exact ⟨g, hg, rfl, h⟩
theorem DkIn.putA (h : DkIn B d mb V sv c D w) {f : Dk.Fl} {v : Value} (hw : Wr A w w') (hA : ∀ q, A q → q = d ∨ q = mb ∨ (vOf V f.name D.L).ownBlock = some q ∨ w.heap.size ≤ q)
    (hbox : Bk (dkC { D with L := Dk.put f D.L } mb sv) 43 w' d) {n : Nat} (hmap : w'.ownsMap Try.prog 9 heldR mb n (datM (upV V f.name v) (Dk.put f D.L)))
    (hrow : w'.ownsRow B 5 1 v f.dat.length (bts f.dat)) (hnew : ∀ q, v.ownBlock = some q → (vOf V f.name D.L).ownBlock = some q ∨ w.heap.size ≤ q) :
    DkIn B d mb (upV V f.name v) sv c { D with L := Dk.put f D.L } w' := by
  have hco := h.co
  refine DkCo.in (hco.putW hw (fun g hg hn q hq ha => ?_) hbox hmap hrow (fun g hg hn q hq hq' => ?_)) (h.setW hw (fun q hq => ?_))
  · have h1 := hco.rne hg hq
    rcases hA q ha with e | e | e | e
    · exact h1.1 e
    · exact h1.2.1 e
    · obtain ⟨g', hg', e1, e2⟩ := vOf_block e
      exact hco.ap g' hg' g hg (fun e3 => hn (e3.symm.trans e1)) q e2 hq
    · omega
  · rcases hnew q hq with e | e
    · obtain ⟨g', hg', e1, e2⟩ := vOf_block e
      exact hco.ap g' hg' g hg (fun e3 => hn (e3.symm.trans e1)) q e2 hq'
    · have h1 := hco.rne hg hq'
      omega
  · rcases hA q hq with e | e | e | e
    · exact .inl e
    · exact .inr (.inl e)
    · obtain ⟨g', hg', e1, e2⟩ := vOf_block e
      exact .inr (.inr (.inl ⟨g', hg', e2⟩))
    · exact .inr (.inr (.inr e))
theorem ft_put {f : Dk.Fl} {v : Value} (hnew : ∀ q, v.ownBlock = some q → (∃ g ∈ D.L, (V g.name).ownBlock = some q) ∨ w.heap.size ≤ q) (hF : ∀ b, Ft d mb V c D b → F b) :
    ∀ b, Ft d mb (upV V f.name v) c { D with L := Dk.put f D.L } b → F b ∨ w.heap.size ≤ b := by
  rintro b (rfl | rfl | ⟨g, hg, hq⟩ | hn)
  · exact .inl (hF _ (.inl rfl))
  · exact .inl (hF _ (.inr (.inl rfl)))
  · rcases Dk.mem_put.1 hg with rfl | ⟨hg, hne⟩
    · rw [upV_same] at hq
      rcases hnew b hq with ⟨g', hg', e⟩ | e
      · exact .inl (hF _ (.inr (.inr (.inl ⟨g', hg', e⟩))))
      · exact .inr e
    · rw [upV_other V v hne] at hq
      exact .inl (hF _ (.inr (.inr (.inl ⟨g, hg, hq⟩))))
  · exact .inl (hF _ (.inr (.inr (.inr hn))))
end
theorem infoB5 : (Try.prog.info? 5).map (fun i => (i.zero, i.size, i.bytes)) = some (some (.int .u8 0), 1, 1) := by kernel_rfl
section
variable {B d mb : Nat} {V : List UInt8 → Value} {sv : Value} {c : Cs} {D : Dk.St} {w : World} {F : Nat → Prop}
/-- What an Append leaves in memory, ahead of 'struck'. -/
theorem app_asm5 (hI : DkIn B d mb V sv c D w) (hO : Dk.Ok D) {nm s : List UInt8} {vo a4 : Option Addr} {vc c4 X n : Nat} {CX : Array Value} {W3 W4 W7 W8 : World} (hFt : ∀ b, Ft d mb V c D b → F b)
    (hv : vOf V nm D.L = .slice vo (Dk.get nm D.L).dat.length vc) (hb3 : Below w.heap.size w W3) (hX : Bk CX 93 W3 X) (hXw : w.heap.size ≤ X)
    (ho4 : W4.ownsRow B 5 1 (.slice a4 ((Dk.get nm D.L).dat.length + s.length) c4) ((Dk.get nm D.L).dat.length + s.length) (bts (Dk.get nm D.L).dat ++ bts s))
    (hg4 : W3.grownBy W4 (Value.slice vo (Dk.get nm D.L).dat.length vc).ownBlock) (ha4 : ∀ q, (Value.slice a4 ((Dk.get nm D.L).dat.length + s.length) c4).ownBlock = some q → (Value.slice vo (Dk.get nm D.L).dat.length vc).ownBlock = some q ∨ W3.heap.size ≤ q)
    (hw7 : Wr (fun q => q = X) W4 W7)
    (hmap : W8.ownsMap Try.prog 9 heldR mb n (datM (upV V nm (.slice a4 ((Dk.get nm D.L).dat.length + s.length) c4)) (Dk.put ⟨nm, (Dk.get nm D.L).dat ++ s, (Dk.get nm D.L).safe⟩ D.L))) (ht : W7.mapTurned W8 mb)
    (hsz : Dk.size D.L + s.length ≤ 1048576) :
    DkIn B d mb (upV V nm (.slice a4 ((Dk.get nm D.L).dat.length + s.length) c4)) sv c { D with L := Dk.put ⟨nm, (Dk.get nm D.L).dat ++ s, (Dk.get nm D.L).safe⟩ D.L } (W8.setCell ⟨d, 1, none⟩ (.int .i64 ((Dk.size D.L : Int) + (s.length : Int)))) ∧
    (∀ b, Ft d mb (upV V nm (.slice a4 ((Dk.get nm D.L).dat.length + s.length) c4)) c { D with L := Dk.put ⟨nm, (Dk.get nm D.L).dat ++ s, (Dk.get nm D.L).safe⟩ D.L } b → F b ∨ w.heap.size ≤ b) ∧
    Wr F w (W8.setCell ⟨d, 1, none⟩ (.int .i64 ((Dk.size D.L : Int) + (s.length : Int)))) := by
  have hco := hI.co
  have hl4 : ((Dk.get nm D.L).dat ++ s).length = (Dk.get nm D.L).dat.length + s.length := by simp
  have hbd : bts ((Dk.get nm D.L).dat ++ s) = bts (Dk.get nm D.L).dat ++ bts s := bts_app _ _
  -- what was written
  have hw4 : Wr (fun q => (vOf V nm D.L).ownBlock = some q) W3 W4 := wr_grown hg4 (fun q hq => .inl (by rw [hv]; exact hq))
  have hw8 : Wr (fun q => q = mb) W7 W8 := wr_turned ht rfl
  have hw9 : Wr (fun q => q = d) W8 (W8.setCell ⟨d, 1, none⟩ (.int .i64 ((Dk.size D.L : Int) + (s.length : Int)))) := wr_set _ _ _ rfl
  have hw : Wr (fun q => q = d ∨ q = mb ∨ (vOf V nm D.L).ownBlock = some q) w (W8.setCell ⟨d, 1, none⟩ (.int .i64 ((Dk.size D.L : Int) + (s.length : Int)))) := by
    have k1 : Wr (fun q => q = d ∨ q = mb ∨ (vOf V nm D.L).ownBlock = some q) w W4 := (wr_below hb3).step hw4 (fun x hx => .inl (.inr (.inr hx)))
    have k2 := k1.step hw7 (fun x hx => .inr (by rw [hx]; exact hXw))
    have k3 := k2.step hw8 (fun x hx => .inl (.inr (.inl hx)))
    exact k3.step hw9 (fun x hx => .inl (.inl hx))
  have hXd : X ≠ d := by
    have h1 := (hco.below hb3).box
    intro e
    unfold Bk at hX h1
    rw [e, h1] at hX
    simp at hX
  have hXm : mb ≠ X := map_bk5 (hco.below hb3).map hX
  -- the box
  have hbx3 := (hco.below hb3).box
  have hvd : ∀ q, (vOf V nm D.L).ownBlock = some q → q ≠ d := fun q hq => by
    obtain ⟨g, hg, _, e2⟩ := vOf_block hq
    exact (hco.rne hg e2).1
  have hbx4 := hbx3.wr hw4 (fun hq => hvd d hq rfl)
  have hbx8 := (hbx4.wr hw7 (fun e => hXd e.symm)).wr hw8 (fun e => hco.ne e.symm)
  have hbx9 := hbx8.set 1 (.int .i64 ((Dk.size D.L : Int) + (s.length : Int)))
  have hszp : (Dk.size (Dk.put ⟨nm, (Dk.get nm D.L).dat ++ s, (Dk.get nm D.L).safe⟩ D.L) : Int) = (Dk.size D.L : Int) + (s.length : Int) := by
    have h1 := Dk.size_put hO.l ⟨nm, (Dk.get nm D.L).dat ++ s, (Dk.get nm D.L).safe⟩
    simp only [List.length_append] at h1
    omega
  have hnew : ∀ q, (Value.slice a4 ((Dk.get nm D.L).dat.length + s.length) c4).ownBlock = some q → (vOf V nm D.L).ownBlock = some q ∨ w.heap.size ≤ q := fun q hq => by
    rcases ha4 q hq with e | e
    · exact .inl (by rw [hv]; exact e)
    · exact .inr (Nat.le_trans hb3.size e)
  refine ⟨?_, ?_, ?_⟩
  · refine hI.putA (f := ⟨nm, (Dk.get nm D.L).dat ++ s, (Dk.get nm D.L).safe⟩) (v := .slice a4 ((Dk.get nm D.L).dat.length + s.length) c4) hw (fun q hq => ?_) ?_ (hmap.setCell (a := ⟨d, 1, none⟩) hco.ne _) ?_ hnew
    · rcases hq with e | e | e
      · exact .inl e
      · exact .inr (.inl e)
      · exact .inr (.inr (.inl e))
    · unfold dkC at hbx9 ⊢
      simp only at hbx9 ⊢
      rw [hszp]
      exact hbx9
    · simp only
      rw [hl4, hbd]
      have hbt : ∀ q, (Value.slice a4 ((Dk.get nm D.L).dat.length + s.length) c4).ownBlock = some q → q ≠ X ∧ q ≠ mb ∧ q ≠ d := fun q hq => by
        rcases ha4 q hq with e | e
        · have e' : (vOf V nm D.L).ownBlock = some q := by rw [hv]; exact e
          obtain ⟨g, hg, _, e2⟩ := vOf_block e'
          have h1 := hco.rne hg e2
          exact ⟨by omega, h1.2.1, h1.1⟩
        · have h1 := hX.lt
          have h2 := hbx3.lt
          have h3 := (hco.below hb3).map.lt
          exact ⟨by omega, by omega, by omega⟩
      exact row_wr (row_wr (row_wr ho4 hw7 (fun q hq => (hbt q hq).1)) hw8 (fun q hq => (hbt q hq).2.1)) hw9 (fun q hq => (hbt q hq).2.2)
  · exact ft_put (f := ⟨nm, (Dk.get nm D.L).dat ++ s, (Dk.get nm D.L).safe⟩) (fun q hq => by
      rcases hnew q hq with e | e
      · obtain ⟨g, hg, _, e2⟩ := vOf_block e
        exact .inl ⟨g, hg, e2⟩
      · exact .inr e) hFt
  · refine hw.mono (fun x hx => .inl (hFt x ?_))
    rcases hx with e | e | e
    · exact .inl e
    · exact .inr (.inl e)
    · obtain ⟨g, hg, _, e2⟩ := vOf_block e
      exact .inr (.inr (.inl ⟨g, hg, e2⟩))
end

end Go.Proofs.Ytekmnpmeienhhaa
