/- Layer 5: which states follow one another may be; the blocks of a disk behind a change. -/
import Derived.Test.YtekmnpmeienhhaaDiskR
namespace Go.Proofs.Ytekmnpmeienhhaa
set_option linter.unusedVariables false
open Go Go.RowKit Go.Maps

namespace Dk
theorem fall_ok5 {D : St} (h : Ok D) (ks : List Int) : Ok (fall ks D) :=
  ⟨h.l.cut ks, by unfold fall; simp only; rw [cut_len]; exact h.few, Nat.le_trans (size_cut ks h.l.safe) h.room, h.most, (fun p hp => by cases hp), (fun _ => rfl), (fun p hp => by cases hp)⟩
theorem struck_cases (D : St) : (D.set = none ∧ struck D = (false, D)) ∨ (∃ ks, D.set = some (0, ks) ∧ struck D = (true, fall ks D)) ∨ (∃ n ks, D.set = some (n + 1, ks) ∧ struck D = (false, { D with set := some (n, ks) })) := by
  cases hs : D.set with
  | none => exact .inl ⟨rfl, by unfold struck; rw [hs]⟩
  | some p =>
    obtain ⟨n, ks⟩ := p
    cases n with
    | zero => exact .inr (.inl ⟨ks, rfl, by unfold struck; rw [hs]⟩)
    | succ n => exact .inr (.inr ⟨n, ks, rfl, by unfold struck; rw [hs]⟩)
theorem struck_ok5 {D : St} (h : Ok D) : Ok (struck D).2 := by
  rcases struck_cases D with ⟨_, e⟩ | ⟨ks, _, e⟩ | ⟨n, ks, hs, e⟩
  · rw [e]; exact h
  · rw [e]; exact fall_ok5 h _
  · rw [e]
    refine ⟨h.l, h.few, h.room, h.most, fun p hp => ?_, fun hd => ?_, fun p hp => ?_⟩
    · cases hp
      have h9 := h.n _ hs
      simp only at h9 ⊢
      omega
    · have h9 := h.dn hd
      rw [hs] at h9
      cases h9
    · cases hp
      exact h.k (n + 1, ks) hs
theorem struck_keep {D : St} (h : (struck D).1 = false) : (struck D).2.L = D.L ∧ (struck D).2.room = D.room := by
  rcases struck_cases D with ⟨_, e⟩ | ⟨_, _, e⟩ | ⟨_, _, _, e⟩
  · rw [e]; exact ⟨rfl, rfl⟩
  · rw [e] at h; cases h
  · rw [e]; exact ⟨rfl, rfl⟩
theorem with_ok5 {D : St} (h : Ok D) {L : List Fl} (hl : OkL L) (hf : L.length ≤ 1024) (hz : size L ≤ D.room) : Ok { D with L := L } := ⟨hl, hf, hz, h.most, h.n, h.dn, h.k⟩
theorem put_ok5 {D : St} (h : Ok D) {f : Fl} (hn : named f.name = true) (hs : f.safe ≤ f.dat.length) (hf : has f.name D.L = true ∨ D.L.length ≠ 1024) (hz : size D.L + f.dat.length ≤ D.room + (get f.name D.L).dat.length) : Ok { D with L := put f D.L } := by
  refine with_ok5 h (h.l.put hn hs) ?_ ?_
  · have h1 := len_put h.l f
    have h2 := h.few
    rcases hf with hf | hf
    · rw [hf] at h1; simp at h1; omega
    · split at h1 <;> omega
  · have := size_put h.l f
    omega
theorem del_ok5 {D : St} (h : Ok D) (nm : List UInt8) : Ok { D with L := del nm D.L } := by
  refine with_ok5 h (h.l.del nm) ?_ ?_
  · have := len_del (nm := nm) h.l.ne
    have := h.few
    omega
  · have := size_del (nm := nm) h.l.ne
    have := h.room
    omega
end Dk
section
variable {B d mb : Nat} {V V' : List UInt8 → Value} {sv sv' : Value} {c : Cs} {D D' : Dk.St} {w w' : World} {F : Nat → Prop}
/-- What an act answers, and the disk behind it. -/
def OpR (B : Nat) (F : Nat → Prop) (d : Nat) (r : Int × Dk.St) (w : World) (e : Ending) (w' : World) : Prop := e = .returned (.int .i64 r.1) ∧ DkAt B (gr F w w') d r.2 w' ∧ Wr F w w'
theorem gr_mono (h : DkAt B F d D w) (hs : w.heap.size ≤ w'.heap.size) : ∀ b, F b → gr F w w' b := fun b hb => .inl hb
theorem opR_same (h : DkAt B F d D w) (hB : B ≤ w.heap.size) (hb : Below w.heap.size w w') (n : Int) : OpR B F d (n, D) w (.returned (.int .i64 n)) w' :=
  ⟨rfl, (h.below hb).mono (fun b hb => .inl hb) (h.gr hb.size hB), wr_below hb⟩
theorem DkIn.at (h : DkIn B d mb V sv c D w') (hO : Dk.Ok D) (hs : w.heap.size ≤ w'.heap.size) (hB : B ≤ w.heap.size) (hF : ∀ b, F b → B ≤ b ∧ b < w.heap.size) (hft : ∀ b, Ft d mb V c D b → F b ∨ w.heap.size ≤ b) : DkAt B (gr F w w') d D w' := by
  refine ⟨hO, mb, V, sv, c, h, fun b hb => ?_, fun b hb => ?_⟩
  · rcases hft b hb with q | q
    · exact .inl q
    · refine .inr ⟨q, ?_⟩
      rcases hb with rfl | rfl | ⟨f, hf, hq⟩ | ⟨hn, hx⟩
      · exact h.box.lt
      · exact h.map.lt
      · exact row_lt5 (h.row f hf) b hq
      · have hset := h.set
        generalize hS : D.set = o at *
        cases o with
        | none => exact absurd rfl hn
        | some p =>
          obtain ⟨n, ks⟩ := p
          obtain ⟨h1, h2, h3, h4, h5, h6⟩ := hset
          rcases hx with rfl | rfl | rfl | ⟨a, p, hp, hne, ha, rfl⟩
          · exact h2.lt
          · exact h3.lt
          · exact h4.lt
          · cases hp
            exact row_lt5 (h5 hne) a.block (by rw [ha]; rfl)
  · rcases hb with q | q
    · have := hF b q; omega
    · omega
/-- The blocks stay those that they were where each row lies where it lay. -/
theorem ft_same {L : List Dk.Fl} (hV : ∀ f ∈ L, ∀ q, (V' f.name).ownBlock = some q → F q ∨ w.heap.size ≤ q) (hd : F d) (hm : F mb) (hD : D'.L = L) (hset : D'.set ≠ none → ∀ b, (b = c.n ∨ b = c.d ∨ b = c.k ∨ ∃ a p, D'.set = some p ∧ p.2 ≠ [] ∧ c.a = some a ∧ b = a.block) → F b) :
    ∀ b, Ft d mb V' c D' b → F b ∨ w.heap.size ≤ b := by
  rintro b (rfl | rfl | ⟨f, hf, hq⟩ | ⟨hn, hx⟩)
  · exact .inl hd
  · exact .inl hm
  · exact hV f (hD ▸ hf) b hq
  · exact .inl (hset hn b hx)
/-- The blocks behind 'struck'. -/
theorem ft_struck (hV : ∀ nm, (V' nm).ownBlock = (V nm).ownBlock) {b : Nat} (hb : Ft d mb V' c (Dk.struck D).2 b) : Ft d mb V c D b := by
  rcases Dk.struck_cases D with ⟨hs1, e1⟩ | ⟨ks, hs1, e1⟩ | ⟨n, ks, hs1, e1⟩
  · rw [e1] at hb
    rcases hb with rfl | rfl | ⟨f, hf, hq⟩ | ⟨hn, hx⟩
    · exact .inl rfl
    · exact .inr (.inl rfl)
    · rw [hV] at hq
      exact .inr (.inr (.inl ⟨f, hf, hq⟩))
    · exact absurd hs1 hn
  · rw [e1] at hb
    rcases hb with rfl | rfl | ⟨f, hf, hq⟩ | ⟨hn, hx⟩
    · exact .inl rfl
    · exact .inr (.inl rfl)
    · rw [hV] at hq
      obtain ⟨g, hg, kk, rfl⟩ := Dk.mem_cut hf
      exact .inr (.inr (.inl ⟨g, hg, hq⟩))
    · exact absurd rfl hn
  · rw [e1] at hb
    rcases hb with rfl | rfl | ⟨f, hf, hq⟩ | ⟨hn, hx⟩
    · exact .inl rfl
    · exact .inr (.inl rfl)
    · rw [hV] at hq
      exact .inr (.inr (.inl ⟨f, hf, hq⟩))
    · refine .inr (.inr (.inr ⟨by rw [hs1]; simp, ?_⟩))
      rcases hx with e | e | e | ⟨a, p, hp, h1, h2, h3⟩
      · exact .inl e
      · exact .inr (.inl e)
      · exact .inr (.inr (.inl e))
      · cases hp
        exact .inr (.inr (.inr ⟨a, _, hs1, h1, h2, h3⟩))
/-- Behind 'struck'. -/
theorem strR_at {w1 : World} {e : Ending} (hR : StrR B d mb V c D w1 e w') (hO : Dk.Ok D) (hs : w.heap.size ≤ w1.heap.size) (hB : B ≤ w.heap.size) (hF : ∀ b, F b → B ≤ b ∧ b < w.heap.size) (hft : ∀ b, Ft d mb V c D b → F b ∨ w.heap.size ≤ b) :
    DkAt B (gr F w w') d (Dk.struck D).2 w' := by
  obtain ⟨_, ⟨V', sv', hI, hV, _⟩, hw⟩ := hR
  refine hI.at (Dk.struck_ok5 hO) (Nat.le_trans hs hw.size) hB hF (fun b hb => hft b (ft_struck hV hb))
/-- A block of another kind is none of a disk's. -/
theorem DkIn.apart (h : DkIn B d mb V sv c D w) {C : Array Value} {T : TypeId} {b : Nat} (hb : Bk C T w b) (h1 : T ≠ 43) (h2 : T ≠ 5) (h3 : T ≠ 3) (h4 : T ≠ 24) (h5 : T ≠ 32) : ¬ Ft d mb V c D b := by
  have key : ∀ {C' : Array Value} {T' : TypeId}, Bk C' T' w b → T = T' := fun {C' T'} h' => by
    unfold Bk at hb h'
    rw [hb] at h'
    simp at h'
    exact h'.2
  rintro (rfl | rfl | ⟨f, hf, hq⟩ | ⟨hn, hx⟩)
  · exact h1 (key h.box)
  · exact map_bk5 h.map hb rfl
  · exact bk_row hb (h.row f hf) h2 _ hq rfl
  · have hset := h.set
    generalize D.set = o at *
    cases o with
    | none => exact absurd rfl hn
    | some p =>
      obtain ⟨n, ks⟩ := p
      obtain ⟨k1, k2, k3, k4, k5, k6⟩ := hset
      rcases hx with rfl | rfl | rfl | ⟨a, p, hp, hne, ha, rfl⟩
      · exact h3 (key k2)
      · exact h4 (key k3)
      · exact h5 (key k4)
      · cases hp
        exact bk_row hb (k5 hne) h3 a.block (by rw [ha]; rfl) rfl
/-- What 'struck' may write. -/
theorem strR_wr {w1 : World} {e : Ending} (hR : StrR B d mb V c D w1 e w') (hw : Wr F w w1) (hft : ∀ b, Ft d mb V c D b → F b ∨ w.heap.size ≤ b) : Wr F w w' := by
  obtain ⟨_, _, h2⟩ := hR
  refine hw.step h2 (fun x hx => ?_)
  rcases hx with rfl | rfl | ⟨h1, rfl⟩
  · exact hft _ (.inl rfl)
  · exact hft _ (.inr (.inl rfl))
  · exact hft _ (.inr (.inr (.inr ⟨h1, .inl rfl⟩)))
end

end Go.Proofs.Ytekmnpmeienhhaa
