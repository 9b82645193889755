import Derived.Test.YtmammmjmipgmoaaGreatDoorZH
import Derived.Test.YtmammmjmipgmoaaGreatDoorZQh
set_option linter.unusedVariables false
set_option maxRecDepth 100000
set_option maxHeartbeats 16000000
namespace Go.Proofs.YtmammmjmipgmoaaGreatDoor
section
open Go Go.RowKit Go.Maps
section
variable {B d mb : Nat} {V : List UInt8 → Value} {sv : Value} {c : Cs} {D : Dk.St} {w w' : World} {F : Nat → Prop}
theorem DkCo.not (h : DkCo B d mb V sv D w) {C : Array Value} {T : TypeId} {b : Nat} (hb : Bk C T w b) (hT : T ≠ 51) (hT' : T ≠ 5) : ¬ Fc d mb V D.L b := by
 rintro (rfl | rfl | ⟨f, hf, hq⟩)
 ·have h7 := h.box
  unfold Bk at hb h7;rw [hb] at h7;simp at h7;exact hT h7.2
 ·exact Jbs h.map hb rfl
 ·exact Jao hb (h.row f hf) hT' _ hq rfl
def StrR (B d mb : Nat) (V : List UInt8 → Value) (c : Cs) (D : Dk.St) (w : World) (e : Ending) (w' : World) : Prop :=
 e = .returned (.bool (Dk.struck D).1) ∧ (∃ V' sv', DkIn B d mb V' sv' c (Dk.struck D).2 w' ∧ (∀ nm, (V' nm).ownBlock = (V nm).ownBlock) ∧ ((Dk.struck D).1 = false → V' = V)) ∧ Wr (fun q => q = d ∨ q = mb ∨ (D.set ≠ none ∧ q = c.n)) w w'
theorem Jjz (hI : DkIn B d mb V sv c D w) {n : Nat} {ks : List Int} (hs : D.set = some (n + 1, ks)) (hn : ((n + 1 : Nat) : Int) ≤ 9223372036854775807) :
  Calls Tryz.prog 81 #[.pointer (some ⟨c.n, 0, none⟩), .pointer (some ⟨c.d, 0, none⟩), .pointer (some ⟨c.k, 0, none⟩)] w (StrR B d mb V c D w) := by
 have hset := hI.set;have hco := hI.co;rw [hs] at hset;obtain ⟨h1, h2, h3, h4, h5, h6⟩ := hset;have x0 : w.cell? ⟨c.n, 0, none⟩ = some (.int .i64 ((n + 1 : Nat) : Int)) := h2.cell 0;have x1 : ∀ j, w.frozen? ⟨c.n, j, none⟩ = false := fun j => h2.free j
 have hne := hco.not h2 (by decide) (by decide);have hst : Dk.struck D = (false, { D with set := some (n, ks) }) := by unfold Dk.struck; rw [hs]
 have HF : Hid (StrR B d mb V c D w (.returned (.bool false)) (w.setCell ⟨c.n, 0, none⟩ (.int .i64 n))) := Qh (by
  have hw : Wr (fun q => q = c.n) w (w.setCell ⟨c.n, 0, none⟩ (.int .i64 n)) := Jai _ _ _ rfl;have hdn : c.d ≠ c.n := fun e => by unfold Bk at h2 h3; rw [e, h2] at h3; simp at h3
  have hkn : c.k ≠ c.n := fun e => by unfold Bk at h2 h4; rw [e, h2] at h4; simp at h4
  refine ⟨by rw [hst], ⟨V, sv, ?_, fun _ => rfl, fun _ => rfl⟩, hw.mono (fun x hx => .inl (.inr (.inr ⟨by rw [hs]; simp, hx⟩)))⟩;rw [hst];have hc2 := hco.wr hw (fun b hb e => hne (e ▸ hb))
  exact ⟨hc2.box, hc2.map, hc2.row, hc2.ap, ⟨h1, h2.set 0 _, h3.wr hw hdn, h4.wr hw hkn, h5.wr hw (fun a hn ha => h6 a hn ha), h6⟩⟩)
 clear hI hco hst hne h1 h2 h3 h4 h5 h6;have e1 : ((n + 1 : Nat) : Int) - 1 = (n : Int) := by omega
 have e2 : (0 : Int) ≤ (n : Int) := by omega
 go_enter Tryz.func81, Tryz.ntmps81;go_wp2_with fail;go_ret;exact HF.o
theorem KsAt.ns {ao : Option Addr} {cap : Nat} {ks : List Int} (h : KsAt B w ao cap ks) : NsA5 w ao ks := fun hn => Joc (h hn) hn
theorem Jhq (hI : DkIn B d mb V sv c D w) (hBd : B ≤ d) (hBm : B ≤ mb) (hO : Dk.Ok D) {ks : List Int} (hs : D.set = some (0, ks)) :
  Calls Tryz.prog 81 #[.pointer (some ⟨c.n, 0, none⟩), .pointer (some ⟨c.d, 0, none⟩), .pointer (some ⟨c.k, 0, none⟩)] w (StrR B d mb V c D w) := by
 have hset := hI.set;have hco := hI.co;rw [hs] at hset;obtain ⟨h1, h2, h3, h4, h5, h6⟩ := hset;have x0 : w.cell? ⟨c.n, 0, none⟩ = some (.int .i64 ((0 : Nat) : Int)) := h2.cell 0;have x1 : ∀ j, w.frozen? ⟨c.n, j, none⟩ = false := fun j => h2.free j
 have hne := hco.not h2 (by decide) (by decide);have hst : Dk.struck D = (true, Dk.fall ks D) := by unfold Dk.struck; rw [hs]
 have hw : Wr (fun q => q = c.n) w (w.setCell ⟨c.n, 0, none⟩ (.int .i64 (-1))) := Jai _ _ _ rfl;have hdn : c.d ≠ c.n := fun e => by unfold Bk at h2 h3; rw [e, h2] at h3; simp at h3
 have hkn : c.k ≠ c.n := fun e => by unfold Bk at h2 h4; rw [e, h2] at h4; simp at h4
 have hc2 := hco.wr hw (fun b hb e => hne (e ▸ hb));have hd2 := h3.wr hw hdn;have hk2 := h4.wr hw hkn;have hks2 := h5.wr hw (fun a hn ha => h6 a hn ha)
 have hkd : ∀ a, ks ≠ [] → c.a = some a → a.block ≠ d := fun a hn ha e => by
  have hr := hks2 hn;exact Jao hc2.box hr (by decide) a.block (by rw [ha]; rfl) e
 have CF := Qh (fall5 hc2 hBd hBm hO.l hO.room hO.most hO.few ks c.a c.c (hO.k _ hs) hks2.ns hkd);have HSN := Qh (show D.set ≠ none from by rw [hs]; simp);have HST := Qh hst;have HW := Qh hw;clear hI hco hst hne h1 h2 h3 h4 h5 h6 hks2 hkd hs;generalize hw1 : (w.setCell ⟨c.n, 0, none⟩ (.int .i64 (-1))) = w1 at *;have c0 : w1.cell? ⟨c.d, 0, none⟩ = some (.pointer (some ⟨d, 0, none⟩)) := hd2.cell 0;have k0 : w1.cell? ⟨c.k, 0, none⟩ = some (.slice c.a ks.length c.c) := hk2.cell 0;have n0 : w1.cell? ⟨c.n, 0, none⟩ = some (.int .i64 (-1)) := by rw [← hw1]; exact World.cell?_setCell_same _ _ _ x0
 clear hd2 hk2 hdn hkn hc2 hw;go_enter Tryz.func81, Tryz.ntmps81;go_wp2_with fail;with_reducible refine CF.o.mono ?_
 rintro e w2 ⟨rfl, ⟨V', hC', hV'⟩, hw'⟩;have HC := Qh hC';have HV := Qh hV';have HW2 := Qh hw';clear hC' hV' hw' hw1 c0 k0 n0;go_wp2_with fail;go_ret;refine ⟨by rw [HST.o]; rfl, ⟨V', .nilFunc, by rw [HST.o]; exact HC.o.in rfl, HV.o, fun h => by rw [HST.o] at h; cases h⟩, ?_⟩;exact (HW.o.mono (fun x hx => .inl (.inr (.inr ⟨HSN.o, hx⟩)))).step HW2.o (fun x hx => .inl (hx.elim .inl (fun e => .inr (.inl e))))
theorem Jde (hI : DkIn B d mb V sv c D w) (hBd : B ≤ d) (hBm : B ≤ mb) (hO : Dk.Ok D) : Calls Tryz.prog 128 #[.pointer (some ⟨d, 0, none⟩)] w (StrR B d mb V c D w) := by
 have c5 : w.cell? ⟨d, 5, none⟩ = some sv := hI.box.cell 5;have hfn := fun W f a c => Jfa (P := Tryz.prog) W _ Tryz.underlying31 f a c
 have hnn := fun W => Jfn (P := Tryz.prog) W _ Tryz.underlying31
 cases hset : D.set with
 | none =>
  have hs := hI.set;rw [hset] at hs;have hs2 : sv = .nilFunc := hs;subst hs2
  have HF := Qh (show StrR B d mb V c D w (.returned (.bool false)) w from by
   have hst : Dk.struck D = (false, D) := by unfold Dk.struck; rw [hset]
   exact ⟨by rw [hst], ⟨V, .nilFunc, by rw [hst]; exact hI, fun _ => rfl, fun _ => rfl⟩, Wr.refl _ _⟩)
  clear hI hs hset hfn;go_enter Tryz.func128, Tryz.ntmps128;go_wp2_with fail;go_ret;exact HF.o
 | some p =>
  obtain ⟨n, ks⟩ := p
  have CC := Qh (show Calls Tryz.prog 81 #[.pointer (some ⟨c.n, 0, none⟩), .pointer (some ⟨c.d, 0, none⟩), .pointer (some ⟨c.k, 0, none⟩)] w (StrR B d mb V c D w) from by
   cases n with
   | zero => exact Jhq hI hBd hBm hO hset
   | succ n => exact Jjz hI hset (by have h9 := hO.n _ hset; simp only at h9; exact h9))
  have hs := hI.set;rw [hset] at hs;have hs2 : sv = csV c := hs.1;unfold csV at hs2;subst hs2;clear hI hs hset hnn hO;go_enter Tryz.func128, Tryz.ntmps128;go_wp2_with fail;with_reducible refine CC.o.mono ?_
  rintro e w1 ⟨rfl, hR, hw⟩;have HR := Qh hR;have HW := Qh hw;clear hR hw;go_wp2_with fail;go_ret;exact ⟨rfl, HR.o, HW.o⟩
end
end
section
open Go Go.RowKit Go.Maps
namespace Dk
theorem fall_ok5 {D : St} (h : Ok D) (ks : List Int) : Ok (fall ks D) :=
 ⟨h.l.cut ks, by unfold fall; simp only; rw [cut_len]; exact h.few, Nat.le_trans (size_cut ks h.l.safe) h.room, h.most, (fun p hp => by cases hp), (fun _ => rfl), (fun p hp => by cases hp)⟩
theorem struck_cases (D : St) : (D.set = none ∧ struck D = (false, D)) ∨ (∃ ks, D.set = some (0, ks) ∧ struck D = (true, fall ks D)) ∨ (∃ n ks, D.set = some (n + 1, ks) ∧ struck D = (false, { D with set := some (n, ks) })) := by
 cases hs : D.set with
 | none => exact .inl ⟨rfl, by unfold struck; rw [hs]⟩
 | some p =>
  obtain ⟨n, ks⟩ := p;cases n with
  | zero => exact .inr (.inl ⟨ks, rfl, by unfold struck; rw [hs]⟩)
  | succ n => exact .inr (.inr ⟨n, ks, rfl, by unfold struck; rw [hs]⟩)
theorem struck_ok5 {D : St} (h : Ok D) : Ok (struck D).2 := by
 rcases struck_cases D with ⟨_, e⟩ | ⟨ks, _, e⟩ | ⟨n, ks, hs, e⟩
 ·rw [e]; exact h
 ·rw [e]; exact fall_ok5 h _
 ·rw [e]
  refine ⟨h.l, h.few, h.room, h.most, fun p hp => ?_, fun hd => ?_, fun p hp => ?_⟩
  ·cases hp
   have h9 := h.n _ hs;simp only at h9 ⊢;omega
  ·have h9 := h.dn hd
   rw [hs] at h9;cases h9
  ·cases hp
   exact h.k (n + 1, ks) hs
theorem struck_keep {D : St} (h : (struck D).1 = false) : (struck D).2.L = D.L ∧ (struck D).2.room = D.room := by
 rcases struck_cases D with ⟨_, e⟩ | ⟨_, _, e⟩ | ⟨_, _, _, e⟩
 ·rw [e]; exact ⟨rfl, rfl⟩
 ·rw [e] at h; cases h
 ·rw [e]; exact ⟨rfl, rfl⟩
theorem with_ok5 {D : St} (h : Ok D) {L : List Fl} (hl : OkL L) (hf : L.length ≤ 1024) (hz : size L ≤ D.room) : Ok { D with L := L } := ⟨hl, hf, hz, h.most, h.n, h.dn, h.k⟩
theorem put_ok5 {D : St} (h : Ok D) {f : Fl} (hn : named f.name = true) (hs : f.safe ≤ f.dat.length) (hf : has f.name D.L = true ∨ D.L.length ≠ 1024) (hz : size D.L + f.dat.length ≤ D.room + (get f.name D.L).dat.length) : Ok { D with L := put f D.L } := by
 refine with_ok5 h (h.l.put hn hs) ?_ ?_
 ·have h1 := len_put h.l f
  have h2 := h.few;rcases hf with hf | hf
  ·rw [hf] at h1; simp at h1; omega
  ·split at h1 <;> omega
 ·have := size_put h.l f
  omega
theorem del_ok5 {D : St} (h : Ok D) (nm : List UInt8) : Ok { D with L := del nm D.L } := by
 refine with_ok5 h (h.l.del nm) ?_ ?_
 ·have := len_del (nm := nm) h.l.ne
  have := h.few;omega
 ·have := size_del (nm := nm) h.l.ne
  have := h.room;omega
end Dk
section
variable {B d mb : Nat} {V V' : List UInt8 → Value} {sv sv' : Value} {c : Cs} {D D' : Dk.St} {w w' : World} {F : Nat → Prop}
def OpR (B : Nat) (F : Nat → Prop) (d : Nat) (r : Int × Dk.St) (w : World) (e : Ending) (w' : World) : Prop := e = .returned (.int .i64 r.1) ∧ DkAt B (gr F w w') d r.2 w' ∧ Wr F w w'
theorem Ja0 (h : DkAt B F d D w) (hB : B ≤ w.heap.size) (hb : Below w.heap.size w w') (n : Int) : OpR B F d (n, D) w (.returned (.int .i64 n)) w' :=
 ⟨rfl, (h.below hb).mono (fun b hb => .inl hb) (h.gr hb.size hB), Jad hb⟩
theorem DkIn.at (h : DkIn B d mb V sv c D w') (hO : Dk.Ok D) (hs : w.heap.size ≤ w'.heap.size) (hB : B ≤ w.heap.size) (hF : ∀ b, F b → B ≤ b ∧ b < w.heap.size) (hft : ∀ b, Ft d mb V c D b → F b ∨ w.heap.size ≤ b) : DkAt B (gr F w w') d D w' := by
 refine ⟨hO, mb, V, sv, c, h, fun b hb => ?_, fun b hb => ?_⟩
 ·rcases hft b hb with q | q
  ·exact .inl q
  ·refine .inr ⟨q, ?_⟩
   rcases hb with rfl | rfl | ⟨f, hf, hq⟩ | ⟨hn, hx⟩
   ·exact h.box.lt
   ·exact h.map.lt
   ·exact Jkh (h.row f hf) b hq
   ·have hset := h.set
    generalize hS : D.set = o at *;cases o with
    | none => exact absurd rfl hn
    | some p =>
     obtain ⟨n, ks⟩ := p;obtain ⟨h1, h2, h3, h4, h5, h6⟩ := hset;rcases hx with rfl | rfl | rfl | ⟨a, p, hp, hne, ha, rfl⟩
     ·exact h2.lt
     ·exact h3.lt
     ·exact h4.lt
     ·cases hp
      exact Jkh (h5 hne) a.block (by rw [ha]; rfl)
 ·rcases hb with q | q
  ·have := hF b q; omega
  ·omega
theorem Jdu (hV : ∀ nm, (V' nm).ownBlock = (V nm).ownBlock) {b : Nat} (hb : Ft d mb V' c (Dk.struck D).2 b) : Ft d mb V c D b := by
 rcases Dk.struck_cases D with ⟨hs1, e1⟩ | ⟨ks, hs1, e1⟩ | ⟨n, ks, hs1, e1⟩
 ·rw [e1] at hb
  rcases hb with rfl | rfl | ⟨f, hf, hq⟩ | ⟨hn, hx⟩
  ·exact .inl rfl
  ·exact .inr (.inl rfl)
  ·rw [hV] at hq
   exact .inr (.inr (.inl ⟨f, hf, hq⟩))
  ·exact absurd hs1 hn
 ·rw [e1] at hb
  rcases hb with rfl | rfl | ⟨f, hf, hq⟩ | ⟨hn, hx⟩
  ·exact .inl rfl
  ·exact .inr (.inl rfl)
  ·rw [hV] at hq
   obtain ⟨g, hg, kk, rfl⟩ := Dk.mem_cut hf;exact .inr (.inr (.inl ⟨g, hg, hq⟩))
  ·exact absurd rfl hn
 ·rw [e1] at hb
  rcases hb with rfl | rfl | ⟨f, hf, hq⟩ | ⟨hn, hx⟩
  ·exact .inl rfl
  ·exact .inr (.inl rfl)
  ·rw [hV] at hq
   exact .inr (.inr (.inl ⟨f, hf, hq⟩))
  ·refine .inr (.inr (.inr ⟨by rw [hs1]; simp, ?_⟩))
   rcases hx with e | e | e | ⟨a, p, hp, h1, h2, h3⟩
   ·exact .inl e
   ·exact .inr (.inl e)
   ·exact .inr (.inr (.inl e))
   ·cases hp
    exact .inr (.inr (.inr ⟨a, _, hs1, h1, h2, h3⟩))
theorem Jdf {w1 : World} {e : Ending} (hR : StrR B d mb V c D w1 e w') (hO : Dk.Ok D) (hs : w.heap.size ≤ w1.heap.size) (hB : B ≤ w.heap.size) (hF : ∀ b, F b → B ≤ b ∧ b < w.heap.size) (hft : ∀ b, Ft d mb V c D b → F b ∨ w.heap.size ≤ b) :
  DkAt B (gr F w w') d (Dk.struck D).2 w' := by
 obtain ⟨_, ⟨V', sv', hI, hV, _⟩, hw⟩ := hR;refine hI.at (Dk.struck_ok5 hO) (Nat.le_trans hs hw.size) hB hF (fun b hb => hft b (Jdu hV hb))
theorem DkIn.apart (h : DkIn B d mb V sv c D w) {C : Array Value} {T : TypeId} {b : Nat} (hb : Bk C T w b) (h1 : T ≠ 51) (h2 : T ≠ 5) (h3 : T ≠ 3) (h4 : T ≠ 24) (h5 : T ≠ 40) : ¬ Ft d mb V c D b := by
 have key : ∀ {C' : Array Value} {T' : TypeId}, Bk C' T' w b → T = T' := fun {C' T'} h' => by
  unfold Bk at hb h';rw [hb] at h';simp at h';exact h'.2
 rintro (rfl | rfl | ⟨f, hf, hq⟩ | ⟨hn, hx⟩)
 ·exact h1 (key h.box)
 ·exact Jbs h.map hb rfl
 ·exact Jao hb (h.row f hf) h2 _ hq rfl
 ·have hset := h.set
  generalize D.set = o at *;cases o with
  | none => exact absurd rfl hn
  | some p =>
   obtain ⟨n, ks⟩ := p;obtain ⟨k1, k2, k3, k4, k5, k6⟩ := hset;rcases hx with rfl | rfl | rfl | ⟨a, p, hp, hne, ha, rfl⟩
   ·exact h3 (key k2)
   ·exact h4 (key k3)
   ·exact h5 (key k4)
   ·cases hp
    exact Jao hb (k5 hne) h3 a.block (by rw [ha]; rfl) rfl
theorem Jdg {w1 : World} {e : Ending} (hR : StrR B d mb V c D w1 e w') (hw : Wr F w w1) (hft : ∀ b, Ft d mb V c D b → F b ∨ w.heap.size ≤ b) : Wr F w w' := by
 obtain ⟨_, _, h2⟩ := hR;refine hw.step h2 (fun x hx => ?_);rcases hx with rfl | rfl | ⟨h1, rfl⟩
 ·exact hft _ (.inl rfl)
 ·exact hft _ (.inr (.inl rfl))
 ·exact hft _ (.inr (.inr (.inr ⟨h1, .inl rfl⟩)))
end
end
section
open Go Go.RowKit Go.Maps
section
variable {B d mb : Nat} {V : List UInt8 → Value} {sv : Value} {c : Cs} {D : Dk.St} {w w' : World} {A F : Nat → Prop}
theorem Jbu {L : List Dk.Fl} {nm : List UInt8} {q : Nat} (h : (vOf V nm L).ownBlock = some q) : ∃ g ∈ L, g.name = nm ∧ (V g.name).ownBlock = some q := by
 unfold vOf at h;cases hh : Dk.has nm L with
 | false => rw [hh] at h; cases h
 | true =>
  rw [hh] at h;obtain ⟨g, hg, rfl⟩ := Dk.has_iff.1 hh;exact ⟨g, hg, rfl, h⟩
theorem DkIn.putA (h : DkIn B d mb V sv c D w) {f : Dk.Fl} {v : Value} (hw : Wr A w w') (hA : ∀ q, A q → q = d ∨ q = mb ∨ (vOf V f.name D.L).ownBlock = some q ∨ w.heap.size ≤ q)
  (hbox : Bk (dkC { D with L := Dk.put f D.L } mb sv) 51 w' d) {n : Nat} (hmap : w'.ownsMap Tryz.prog 9 Ja8 mb n (datM (upV V f.name v) (Dk.put f D.L)))
  (hrow : w'.ownsRow B 5 1 v f.dat.length (bts f.dat)) (hnew : ∀ q, v.ownBlock = some q → (vOf V f.name D.L).ownBlock = some q ∨ w.heap.size ≤ q) :
  DkIn B d mb (upV V f.name v) sv c { D with L := Dk.put f D.L } w' := by
 have hco := h.co;refine DkCo.in (hco.putW hw (fun g hg hn q hq ha => ?_) hbox hmap hrow (fun g hg hn q hq hq' => ?_)) (h.setW hw (fun q hq => ?_))
 ·have h1 := hco.rne hg hq
  rcases hA q ha with e | e | e | e
  ·exact h1.1 e
  ·exact h1.2.1 e
  ·obtain ⟨g', hg', e1, e2⟩ := Jbu e
   exact hco.ap g' hg' g hg (fun e3 => hn (e3.symm.trans e1)) q e2 hq
  ·omega
 ·rcases hnew q hq with e | e
  ·obtain ⟨g', hg', e1, e2⟩ := Jbu e
   exact hco.ap g' hg' g hg (fun e3 => hn (e3.symm.trans e1)) q e2 hq'
  ·have h1 := hco.rne hg hq'
   omega
 ·rcases hA q hq with e | e | e | e
  ·exact .inl e
  ·exact .inr (.inl e)
  ·obtain ⟨g', hg', e1, e2⟩ := Jbu e
   exact .inr (.inr (.inl ⟨g', hg', e2⟩))
  ·exact .inr (.inr (.inr e))
theorem Jmk {f : Dk.Fl} {v : Value} (hnew : ∀ q, v.ownBlock = some q → (∃ g ∈ D.L, (V g.name).ownBlock = some q) ∨ w.heap.size ≤ q) (hF : ∀ b, Ft d mb V c D b → F b) :
  ∀ b, Ft d mb (upV V f.name v) c { D with L := Dk.put f D.L } b → F b ∨ w.heap.size ≤ b := by
 rintro b (rfl | rfl | ⟨g, hg, hq⟩ | hn)
 ·exact .inl (hF _ (.inl rfl))
 ·exact .inl (hF _ (.inr (.inl rfl)))
 ·rcases Dk.mem_put.1 hg with rfl | ⟨hg, hne⟩
  ·rw [Jbp] at hq
   rcases hnew b hq with ⟨g', hg', e⟩ | e
   ·exact .inl (hF _ (.inr (.inr (.inl ⟨g', hg', e⟩))))
   ·exact .inr e
  ·rw [Jbb V v hne] at hq
   exact .inl (hF _ (.inr (.inr (.inl ⟨g, hg, hq⟩))))
 ·exact .inl (hF _ (.inr (.inr (.inr hn))))
end
theorem Jml : (Tryz.prog.info? 5).map (fun i => (i.zero, i.size, i.bytes)) = some (some (.int .u8 0), 1, 1) := by kernel_rfl
section
variable {B d mb : Nat} {V : List UInt8 → Value} {sv : Value} {c : Cs} {D : Dk.St} {w : World} {F : Nat → Prop}
theorem Jik (hI : DkIn B d mb V sv c D w) (hO : Dk.Ok D) {nm s : List UInt8} {vo a4 : Option Addr} {vc c4 X n : Nat} {CX : Array Value} {W3 W4 W7 W8 : World} (hFt : ∀ b, Ft d mb V c D b → F b)
  (hv : vOf V nm D.L = .slice vo (Dk.get nm D.L).dat.length vc) (hb3 : Below w.heap.size w W3) (hX : Bk CX 118 W3 X) (hXw : w.heap.size ≤ X)
  (ho4 : W4.ownsRow B 5 1 (.slice a4 ((Dk.get nm D.L).dat.length + s.length) c4) ((Dk.get nm D.L).dat.length + s.length) (bts (Dk.get nm D.L).dat ++ bts s))
  (hg4 : W3.grownBy W4 (Value.slice vo (Dk.get nm D.L).dat.length vc).ownBlock) (ha4 : ∀ q, (Value.slice a4 ((Dk.get nm D.L).dat.length + s.length) c4).ownBlock = some q → (Value.slice vo (Dk.get nm D.L).dat.length vc).ownBlock = some q ∨ W3.heap.size ≤ q)
  (hw7 : Wr (fun q => q = X) W4 W7)
  (hmap : W8.ownsMap Tryz.prog 9 Ja8 mb n (datM (upV V nm (.slice a4 ((Dk.get nm D.L).dat.length + s.length) c4)) (Dk.put ⟨nm, (Dk.get nm D.L).dat ++ s, (Dk.get nm D.L).safe⟩ D.L))) (ht : W7.mapTurned W8 mb)
  (hsz : Dk.size D.L + s.length ≤ 1048576) :
  DkIn B d mb (upV V nm (.slice a4 ((Dk.get nm D.L).dat.length + s.length) c4)) sv c { D with L := Dk.put ⟨nm, (Dk.get nm D.L).dat ++ s, (Dk.get nm D.L).safe⟩ D.L } (W8.setCell ⟨d, 1, none⟩ (.int .i64 ((Dk.size D.L : Int) + (s.length : Int)))) ∧
  (∀ b, Ft d mb (upV V nm (.slice a4 ((Dk.get nm D.L).dat.length + s.length) c4)) c { D with L := Dk.put ⟨nm, (Dk.get nm D.L).dat ++ s, (Dk.get nm D.L).safe⟩ D.L } b → F b ∨ w.heap.size ≤ b) ∧
  Wr F w (W8.setCell ⟨d, 1, none⟩ (.int .i64 ((Dk.size D.L : Int) + (s.length : Int)))) := by
 have hco := hI.co;have hl4 : ((Dk.get nm D.L).dat ++ s).length = (Dk.get nm D.L).dat.length + s.length := by simp
 have hbd : bts ((Dk.get nm D.L).dat ++ s) = bts (Dk.get nm D.L).dat ++ bts s := Jpo _ _;have hw4 : Wr (fun q => (vOf V nm D.L).ownBlock = some q) W3 W4 := Jby hg4 (fun q hq => .inl (by rw [hv]; exact hq));have hw8 : Wr (fun q => q = mb) W7 W8 := Ja7 ht rfl;have hw9 : Wr (fun q => q = d) W8 (W8.setCell ⟨d, 1, none⟩ (.int .i64 ((Dk.size D.L : Int) + (s.length : Int)))) := Jai _ _ _ rfl
 have hw : Wr (fun q => q = d ∨ q = mb ∨ (vOf V nm D.L).ownBlock = some q) w (W8.setCell ⟨d, 1, none⟩ (.int .i64 ((Dk.size D.L : Int) + (s.length : Int)))) := by
  have k1 : Wr (fun q => q = d ∨ q = mb ∨ (vOf V nm D.L).ownBlock = some q) w W4 := (Jad hb3).step hw4 (fun x hx => .inl (.inr (.inr hx)));have k2 := k1.step hw7 (fun x hx => .inr (by rw [hx]; exact hXw));have k3 := k2.step hw8 (fun x hx => .inl (.inr (.inl hx)));exact k3.step hw9 (fun x hx => .inl (.inl hx))
 have hXd : X ≠ d := by
  have h1 := (hco.below hb3).box;intro e;unfold Bk at hX h1;rw [e, h1] at hX;simp at hX
 have hXm : mb ≠ X := Jbs (hco.below hb3).map hX;have hbx3 := (hco.below hb3).box
 have hvd : ∀ q, (vOf V nm D.L).ownBlock = some q → q ≠ d := fun q hq => by
  obtain ⟨g, hg, _, e2⟩ := Jbu hq;exact (hco.rne hg e2).1
 have hbx4 := hbx3.wr hw4 (fun hq => hvd d hq rfl);have hbx8 := (hbx4.wr hw7 (fun e => hXd e.symm)).wr hw8 (fun e => hco.ne e.symm);have hbx9 := hbx8.set 1 (.int .i64 ((Dk.size D.L : Int) + (s.length : Int)))
 have hszp : (Dk.size (Dk.put ⟨nm, (Dk.get nm D.L).dat ++ s, (Dk.get nm D.L).safe⟩ D.L) : Int) = (Dk.size D.L : Int) + (s.length : Int) := by
  have h1 := Dk.size_put hO.l ⟨nm, (Dk.get nm D.L).dat ++ s, (Dk.get nm D.L).safe⟩;simp only [List.length_append] at h1;omega
 have hnew : ∀ q, (Value.slice a4 ((Dk.get nm D.L).dat.length + s.length) c4).ownBlock = some q → (vOf V nm D.L).ownBlock = some q ∨ w.heap.size ≤ q := fun q hq => by
  rcases ha4 q hq with e | e
  ·exact .inl (by rw [hv]; exact e)
  ·exact .inr (Nat.le_trans hb3.size e)
 refine ⟨?_, ?_, ?_⟩
 ·refine hI.putA (f := ⟨nm, (Dk.get nm D.L).dat ++ s, (Dk.get nm D.L).safe⟩) (v := .slice a4 ((Dk.get nm D.L).dat.length + s.length) c4) hw (fun q hq => ?_) ?_ (hmap.setCell (a := ⟨d, 1, none⟩) hco.ne _) ?_ hnew
  ·rcases hq with e | e | e
   ·exact .inl e
   ·exact .inr (.inl e)
   ·exact .inr (.inr (.inl e))
  ·unfold dkC at hbx9 ⊢
   simp only at hbx9 ⊢;rw [hszp];exact hbx9
  ·simp only
   rw [hl4, hbd]
   have hbt : ∀ q, (Value.slice a4 ((Dk.get nm D.L).dat.length + s.length) c4).ownBlock = some q → q ≠ X ∧ q ≠ mb ∧ q ≠ d := fun q hq => by
    rcases ha4 q hq with e | e
    ·have e' : (vOf V nm D.L).ownBlock = some q := by rw [hv]; exact e
     obtain ⟨g, hg, _, e2⟩ := Jbu e';have h1 := hco.rne hg e2;exact ⟨by omega, h1.2.1, h1.1⟩
    ·have h1 := hX.lt
     have h2 := hbx3.lt;have h3 := (hco.below hb3).map.lt;exact ⟨by omega, by omega, by omega⟩
   exact Jal (Jal (Jal ho4 hw7 (fun q hq => (hbt q hq).1)) hw8 (fun q hq => (hbt q hq).2.1)) hw9 (fun q hq => (hbt q hq).2.2)
 ·exact Jmk (f := ⟨nm, (Dk.get nm D.L).dat ++ s, (Dk.get nm D.L).safe⟩) (fun q hq => by
   rcases hnew q hq with e | e
   ·obtain ⟨g, hg, _, e2⟩ := Jbu e
    exact .inl ⟨g, hg, e2⟩
   ·exact .inr e) hFt
 ·refine hw.mono (fun x hx => .inl (hFt x ?_))
  rcases hx with e | e | e
  ·exact .inl e
  ·exact .inr (.inl e)
  ·obtain ⟨g, hg, _, e2⟩ := Jbu e
   exact .inr (.inr (.inl ⟨g, hg, e2⟩))
end
end
section
open Go Go.RowKit Go.Maps
section
variable {B d mb : Nat} {V : List UInt8 → Value} {sv : Value} {c : Cs} {D : Dk.St} {w : World} {F : Nat → Prop}
theorem Jil (h : DkAt B F d D w) (hB : B ≤ w.heap.size) (nm s : List UInt8) (hl : nm.length ≤ 140737488351232) (hs : s.length ≤ 140737488351232) (hu : D.up = false) : Calls Tryz.prog 123 #[.pointer (some ⟨d, 0, none⟩), .string (S nm), .string (S s)] w (OpR B F d (Dk.append nm s D) w) := by
 have CS := Qh (Jbt h)
 have HR := Qh (show OpR B F d (Dk.append nm s D) w (.returned (.int .i64 51)) w from by
  have e : Dk.append nm s D = (51, D) := by unfold Dk.append; rw [if_pos hu]
  rw [e]; exact Ja0 h hB (Below.refl _ _) 51)
 have hst : stE D = 51 := by unfold stE; rw [hu]; rfl
 rw [hst] at CS;clear h hB hl hs hu hst;go_enter Tryz.func123, Tryz.ntmps123;go_wp2_with fail;with_reducible refine CS.o.mono ?_
 rintro e w1 ⟨rfl, rfl⟩;go_wp2_with fail;go_ret;exact HR.o
theorem Jj0 (h : DkAt B F d D w) (hB : B ≤ w.heap.size) (nm s : List UInt8) (hl : nm.length ≤ 140737488351232) (hs : s.length ≤ 140737488351232) (hu : D.up = true) (hn : Dk.named nm = false) : Calls Tryz.prog 123 #[.pointer (some ⟨d, 0, none⟩), .string (S nm), .string (S s)] w (OpR B F d (Dk.append nm s D) w) := by
 have CS := Qh (Jbt h);have CN := Qh (Jcq nm hl w)
 have HR := Qh (show OpR B F d (Dk.append nm s D) w (.returned (.int .i64 2)) w from by
  have e : Dk.append nm s D = (2, D) := by unfold Dk.append; rw [if_neg (by rw [hu]; simp), if_pos hn]
  rw [e]; exact Ja0 h hB (Below.refl _ _) 2)
 have hst : stE D = 0 := by unfold stE; rw [hu]; rfl
 rw [hst] at CS;rw [hn] at CN;clear h hB hl hs hu hst hn;go_enter Tryz.func123, Tryz.ntmps123;go_wp2_with fail;with_reducible refine CS.o.mono ?_
 rintro e w1 ⟨rfl, rfl⟩;go_wp2_with fail;with_reducible refine CN.o.mono ?_
 rintro e w1 ⟨rfl, rfl⟩;go_wp2_with fail;go_ret;exact HR.o
theorem Jim (h : DkAt B F d D w) (hB : B ≤ w.heap.size) (nm s : List UInt8) (hl : nm.length ≤ 140737488351232) (hs : s.length ≤ 140737488351232) (hu : D.up = true) (hn : Dk.named nm = true) (hh : Dk.has nm D.L = true) (hfu : D.room < Dk.size D.L + s.length) : Calls Tryz.prog 123 #[.pointer (some ⟨d, 0, none⟩), .string (S nm), .string (S s)] w (OpR B F d (Dk.append nm s D) w) := by
 have CS := Qh (Jbt h);have CN := Qh (Jcq nm hl w);have hst : stE D = 0 := by unfold stE; rw [hu]; rfl
 rw [hst] at CS;rw [hn] at CN;have hfull : (Dk.has nm D.L = false ∧ D.L.length = 1024) ∨ D.room < Dk.size D.L + s.length := .inr hfu
 have HR := Qh (fun w' (hb : Below w.heap.size w w') => show OpR B F d (Dk.append nm s D) w (.returned (.int .i64 50)) w' from by
  have e : Dk.append nm s D = (50, D) := by unfold Dk.append; rw [if_neg (by rw [hu]; simp), if_neg (by rw [hn]; simp), if_pos hfull]
  rw [e]; exact Ja0 h hB hb 50)
 obtain ⟨hO, mb, V, sv, c, hI, hFt, hFB⟩ := h;have HO := Qh hO;have HI := Qh hI;have HFT := Qh hFt;have HFB := Qh hFB;have HBs := Qh hB;obtain ⟨vo, vc, hv⟩ := Jac (hI.vrow nm);have hvr := hI.vrow nm;rw [hv] at hvr;have HVR := Qh hvr;have HV := Qh hv;have HL := Qh hl;have HM := Qh hI.map;have c2 : w.cell? ⟨d, 2, none⟩ = some (.map (some mb)) := hI.box.cell 2;have hrm := hO.room;have hms := hO.most;have hfw := hO.few;have hgz := Dk.get_size hO.l nm;have hgs := Dk.get_safe hO.l nm;have e1 : IntKind.i64.wrap ((D.room : Int) - (Dk.size D.L : Int)) = (D.room : Int) - (Dk.size D.L : Int) := IntWalk.i64_in _ (by omega);have d1 : decide ((D.room : Int) - (Dk.size D.L : Int) < (s.length : Int)) = true := by simp; omega
 clear hfu;have HH := Qh hh;clear hO hI hFt hFB hB hv hvr hl hs hu hst hn hfull hh;go_enter Tryz.func123, Tryz.ntmps123;go_wp2_with fail;with_reducible refine CS.o.mono ?_
 rintro e w1 ⟨rfl, rfl⟩;go_wp2_with fail;with_reducible refine CN.o.mono ?_
 rintro e w1 ⟨rfl, rfl⟩;go_wp2_with (at_lookup; refine Ja9 _ rfl _ _ rfl rfl rfl HM.o HL.o _ HV.o ?_; rw [HH.o])
 have HX := Qh (Jae #[.slice vo (Dk.get nm D.L).dat.length vc, .int .i64 (Dk.get nm D.L).safe] 118 w);have HI2 := Qh (HI.o.below (Qa (.cells #[.slice vo (Dk.get nm D.L).dat.length vc, .int .i64 (Dk.get nm D.L).safe] 118)));have HB2 := Qh ((Below.refl w.heap.size w).alloc (Nat.le_refl _) (.cells #[.slice vo (Dk.get nm D.L).dat.length vc, .int .i64 (Dk.get nm D.L).safe] 118));have HVR2 := Qh (Jaf HVR.o ((Below.refl w.heap.size w).alloc (Nat.le_refl _) (.cells #[.slice vo (Dk.get nm D.L).dat.length vc, .int .i64 (Dk.get nm D.L).safe] 118)));generalize (w.alloc (.cells #[.slice vo (Dk.get nm D.L).dat.length vc, .int .i64 (Dk.get nm D.L).safe] 118)) = W2 at *;clear c2;generalize hXX : w.heap.size = X at *;have HXX := Qh hXX;clear hXX;have HBw := Qh (show B ≤ w.heap.size from by rw [HXX.o]; exact HBs.o);have HFBw := Qh (show ∀ b, F b → B ≤ b ∧ b < w.heap.size from by rw [HXX.o]; exact HFB.o);have hln := HI2.o.map.len Tryz.underlying49 3;rw [Ja3] at hln;have HLN := Qh hln;clear hln;refine wp_region_held_drew (S := fun W => W.cell? ⟨d, 2, none⟩ = some (.map (some mb)) ∧ W.cell? ⟨d, 0, none⟩ = some (.int .i64 D.room) ∧ W.cell? ⟨d, 1, none⟩ = some (.int .i64 (Dk.size D.L)) ∧ (Builtin.len_ #[49] 3 #[.map (some mb)]).run Tryz.prog W = .ok (.int .i64 D.L.length) W) (by kernel_rfl) ?_ (fun hQ => ?_)
 ·exact ⟨HI2.o.box.cell 2, HI2.o.box.cell 0, HI2.o.box.cell 1, by have h9 := (HI2.o.co.drew).map.len Tryz.underlying49 3; rw [Ja3] at h9; exact h9⟩
 replace HX := Qh HX.o.drew;have HI3 := Qh (HI2.o.below ((Below.refl _ W2).drew));replace HB2 := Qh (show Below X w W2.drew from HB2.o.drew);replace HVR2 := Qh (Jaf HVR2.o ((Below.refl _ W2).drew));obtain ⟨W3, hW3⟩ : ∃ x, x = World.drew W2 := ⟨_, rfl⟩
 rw [← hW3] at HX HI3 HB2 HVR2 hQ ⊢;clear hW3 HI2 HLN;have HB2w := Qh (show Below w.heap.size w W3 from by rw [HXX.o]; exact HB2.o);refine tkH 0 ?_;refine tkH 1 ?_;refine tkH 2 ?_;refine tkO 3 ?_;refine tkO 4 ?_;refine tkO 5 ?_;refine tkO 6 ?_;refine tkO 7 ?_;refine tkO 8 ?_;refine tkH 9 ?_;refine tkH 10 ?_;refine tkH 11 ?_;refine tkH 12 ?_;refine tkH 13 ?_;refine tkH 14 ?_;refine tkH 15 ?_;refine tkH 16 ?_;refine tkH 17 ?_;refine tkH 18 ?_;refine tkH 19 ?_;refine tkH 20 ?_;refine tkH 21 ?_;refine tkH 22 ?_;refine tkH 23 ?_;refine wpAnyH_done (by kernel_rfl) ?_ _;clear hQ;go_wp2_with fail;go_ret;exact HR.o _ HB2.o
theorem Jet (h : DkAt B F d D w) (hB : B ≤ w.heap.size) (nm s : List UInt8) (hl : nm.length ≤ 140737488351232) (hs : s.length ≤ 140737488351232) (hu : D.up = true) (hn : Dk.named nm = true) (hh : Dk.has nm D.L = false) (hfu : D.L.length = 1024) : Calls Tryz.prog 123 #[.pointer (some ⟨d, 0, none⟩), .string (S nm), .string (S s)] w (OpR B F d (Dk.append nm s D) w) := by
 have CS := Qh (Jbt h);have CN := Qh (Jcq nm hl w);have hst : stE D = 0 := by unfold stE; rw [hu]; rfl
 rw [hst] at CS;rw [hn] at CN;have hfull : (Dk.has nm D.L = false ∧ D.L.length = 1024) ∨ D.room < Dk.size D.L + s.length := .inl ⟨hh, hfu⟩
 have HR := Qh (fun w' (hb : Below w.heap.size w w') => show OpR B F d (Dk.append nm s D) w (.returned (.int .i64 50)) w' from by
  have e : Dk.append nm s D = (50, D) := by unfold Dk.append; rw [if_neg (by rw [hu]; simp), if_neg (by rw [hn]; simp), if_pos hfull]
  rw [e]; exact Ja0 h hB hb 50)
 obtain ⟨hO, mb, V, sv, c, hI, hFt, hFB⟩ := h;have HO := Qh hO;have HI := Qh hI;have HFT := Qh hFt;have HFB := Qh hFB;have HBs := Qh hB;obtain ⟨vo, vc, hv⟩ := Jac (hI.vrow nm);have hvr := hI.vrow nm;rw [hv] at hvr;have HVR := Qh hvr;have HV := Qh hv;have HL := Qh hl;have HM := Qh hI.map;have c2 : w.cell? ⟨d, 2, none⟩ = some (.map (some mb)) := hI.box.cell 2;have hrm := hO.room;have hms := hO.most;have hfw := hO.few;have hgz := Dk.get_size hO.l nm;have hgs := Dk.get_safe hO.l nm;have e1 : IntKind.i64.wrap ((D.room : Int) - (Dk.size D.L : Int)) = (D.room : Int) - (Dk.size D.L : Int) := IntWalk.i64_in _ (by omega);have d2 : ((D.L.length : Int) == 1024) = true := by simp; omega
 clear hfu;have HH := Qh hh;clear hO hI hFt hFB hB hv hvr hl hs hu hst hn hfull hh;go_enter Tryz.func123, Tryz.ntmps123;go_wp2_with fail;with_reducible refine CS.o.mono ?_
 rintro e w1 ⟨rfl, rfl⟩;go_wp2_with fail;with_reducible refine CN.o.mono ?_
 rintro e w1 ⟨rfl, rfl⟩;go_wp2_with (at_lookup; refine Ja9 _ rfl _ _ rfl rfl rfl HM.o HL.o _ HV.o ?_; rw [HH.o])
 have HX := Qh (Jae #[.slice vo (Dk.get nm D.L).dat.length vc, .int .i64 (Dk.get nm D.L).safe] 118 w);have HI2 := Qh (HI.o.below (Qa (.cells #[.slice vo (Dk.get nm D.L).dat.length vc, .int .i64 (Dk.get nm D.L).safe] 118)));have HB2 := Qh ((Below.refl w.heap.size w).alloc (Nat.le_refl _) (.cells #[.slice vo (Dk.get nm D.L).dat.length vc, .int .i64 (Dk.get nm D.L).safe] 118));have HVR2 := Qh (Jaf HVR.o ((Below.refl w.heap.size w).alloc (Nat.le_refl _) (.cells #[.slice vo (Dk.get nm D.L).dat.length vc, .int .i64 (Dk.get nm D.L).safe] 118)));generalize (w.alloc (.cells #[.slice vo (Dk.get nm D.L).dat.length vc, .int .i64 (Dk.get nm D.L).safe] 118)) = W2 at *;clear c2;generalize hXX : w.heap.size = X at *;have HXX := Qh hXX;clear hXX;have HBw := Qh (show B ≤ w.heap.size from by rw [HXX.o]; exact HBs.o);have HFBw := Qh (show ∀ b, F b → B ≤ b ∧ b < w.heap.size from by rw [HXX.o]; exact HFB.o);have hln := HI2.o.map.len Tryz.underlying49 3;rw [Ja3] at hln;have HLN := Qh hln;clear hln;refine wp_region_held_drew (S := fun W => W.cell? ⟨d, 2, none⟩ = some (.map (some mb)) ∧ W.cell? ⟨d, 0, none⟩ = some (.int .i64 D.room) ∧ W.cell? ⟨d, 1, none⟩ = some (.int .i64 (Dk.size D.L)) ∧ (Builtin.len_ #[49] 3 #[.map (some mb)]).run Tryz.prog W = .ok (.int .i64 D.L.length) W) (by kernel_rfl) ?_ (fun hQ => ?_)
 ·exact ⟨HI2.o.box.cell 2, HI2.o.box.cell 0, HI2.o.box.cell 1, by have h9 := (HI2.o.co.drew).map.len Tryz.underlying49 3; rw [Ja3] at h9; exact h9⟩
 replace HX := Qh HX.o.drew;have HI3 := Qh (HI2.o.below ((Below.refl _ W2).drew));replace HB2 := Qh (show Below X w W2.drew from HB2.o.drew);replace HVR2 := Qh (Jaf HVR2.o ((Below.refl _ W2).drew));obtain ⟨W3, hW3⟩ : ∃ x, x = World.drew W2 := ⟨_, rfl⟩
 rw [← hW3] at HX HI3 HB2 HVR2 hQ ⊢;clear hW3 HI2 HLN;have HB2w := Qh (show Below w.heap.size w W3 from by rw [HXX.o]; exact HB2.o);refine tkH 0 ?_;refine tkH 1 ?_;refine tkH 2 ?_;refine tkH 3 ?_;refine tkH 4 ?_;refine tkH 5 ?_;refine tkH 6 ?_;refine tkH 7 ?_;refine tkH 8 ?_;refine tkH 9 ?_;refine tkH 10 ?_;refine tkO 11 ?_;refine tkO 12 ?_;refine tkO 13 ?_;refine tkO 14 ?_;refine tkO 15 ?_;refine tkO 16 ?_;refine tkO 17 ?_;refine tkO 18 ?_;refine tkO 19 ?_;refine tkO 20 ?_;refine tkO 21 ?_;refine tkO 22 ?_;refine tkH 23 ?_;refine wpAnyH_done (by kernel_rfl) ?_ _;clear hQ;go_wp2_with fail;go_ret;exact HR.o _ HB2.o
theorem Jhr (h : DkAt B F d D w) (hB : B ≤ w.heap.size) (nm s : List UInt8) (hl : nm.length ≤ 140737488351232) (hs : s.length ≤ 140737488351232) (hu : D.up = true) (hn : Dk.named nm = true) (hh : Dk.has nm D.L = false) (hfe : D.L.length ≠ 1024) (hfu : D.room < Dk.size D.L + s.length) : Calls Tryz.prog 123 #[.pointer (some ⟨d, 0, none⟩), .string (S nm), .string (S s)] w (OpR B F d (Dk.append nm s D) w) := by
 have CS := Qh (Jbt h);have CN := Qh (Jcq nm hl w);have hst : stE D = 0 := by unfold stE; rw [hu]; rfl
 rw [hst] at CS;rw [hn] at CN;have hfull : (Dk.has nm D.L = false ∧ D.L.length = 1024) ∨ D.room < Dk.size D.L + s.length := .inr hfu
 have HR := Qh (fun w' (hb : Below w.heap.size w w') => show OpR B F d (Dk.append nm s D) w (.returned (.int .i64 50)) w' from by
  have e : Dk.append nm s D = (50, D) := by unfold Dk.append; rw [if_neg (by rw [hu]; simp), if_neg (by rw [hn]; simp), if_pos hfull]
  rw [e]; exact Ja0 h hB hb 50)
 obtain ⟨hO, mb, V, sv, c, hI, hFt, hFB⟩ := h;have HO := Qh hO;have HI := Qh hI;have HFT := Qh hFt;have HFB := Qh hFB;have HBs := Qh hB;obtain ⟨vo, vc, hv⟩ := Jac (hI.vrow nm);have hvr := hI.vrow nm;rw [hv] at hvr;have HVR := Qh hvr;have HV := Qh hv;have HL := Qh hl;have HM := Qh hI.map;have c2 : w.cell? ⟨d, 2, none⟩ = some (.map (some mb)) := hI.box.cell 2;have hrm := hO.room;have hms := hO.most;have hfw := hO.few;have hgz := Dk.get_size hO.l nm;have hgs := Dk.get_safe hO.l nm;have e1 : IntKind.i64.wrap ((D.room : Int) - (Dk.size D.L : Int)) = (D.room : Int) - (Dk.size D.L : Int) := IntWalk.i64_in _ (by omega);have d2 : ((D.L.length : Int) == 1024) = false := by simp; omega
 have d1 : decide ((D.room : Int) - (Dk.size D.L : Int) < (s.length : Int)) = true := by simp; omega
 clear hfu hfe;have HH := Qh hh;clear hO hI hFt hFB hB hv hvr hl hs hu hst hn hfull hh;go_enter Tryz.func123, Tryz.ntmps123;go_wp2_with fail;with_reducible refine CS.o.mono ?_
 rintro e w1 ⟨rfl, rfl⟩;go_wp2_with fail;with_reducible refine CN.o.mono ?_
 rintro e w1 ⟨rfl, rfl⟩;go_wp2_with (at_lookup; refine Ja9 _ rfl _ _ rfl rfl rfl HM.o HL.o _ HV.o ?_; rw [HH.o])
 have HX := Qh (Jae #[.slice vo (Dk.get nm D.L).dat.length vc, .int .i64 (Dk.get nm D.L).safe] 118 w);have HI2 := Qh (HI.o.below (Qa (.cells #[.slice vo (Dk.get nm D.L).dat.length vc, .int .i64 (Dk.get nm D.L).safe] 118)));have HB2 := Qh ((Below.refl w.heap.size w).alloc (Nat.le_refl _) (.cells #[.slice vo (Dk.get nm D.L).dat.length vc, .int .i64 (Dk.get nm D.L).safe] 118));have HVR2 := Qh (Jaf HVR.o ((Below.refl w.heap.size w).alloc (Nat.le_refl _) (.cells #[.slice vo (Dk.get nm D.L).dat.length vc, .int .i64 (Dk.get nm D.L).safe] 118)));generalize (w.alloc (.cells #[.slice vo (Dk.get nm D.L).dat.length vc, .int .i64 (Dk.get nm D.L).safe] 118)) = W2 at *;clear c2;generalize hXX : w.heap.size = X at *;have HXX := Qh hXX;clear hXX;have HBw := Qh (show B ≤ w.heap.size from by rw [HXX.o]; exact HBs.o);have HFBw := Qh (show ∀ b, F b → B ≤ b ∧ b < w.heap.size from by rw [HXX.o]; exact HFB.o);have hln := HI2.o.map.len Tryz.underlying49 3;rw [Ja3] at hln;have HLN := Qh hln;clear hln;refine wp_region_held_drew (S := fun W => W.cell? ⟨d, 2, none⟩ = some (.map (some mb)) ∧ W.cell? ⟨d, 0, none⟩ = some (.int .i64 D.room) ∧ W.cell? ⟨d, 1, none⟩ = some (.int .i64 (Dk.size D.L)) ∧ (Builtin.len_ #[49] 3 #[.map (some mb)]).run Tryz.prog W = .ok (.int .i64 D.L.length) W) (by kernel_rfl) ?_ (fun hQ => ?_)
 ·exact ⟨HI2.o.box.cell 2, HI2.o.box.cell 0, HI2.o.box.cell 1, by have h9 := (HI2.o.co.drew).map.len Tryz.underlying49 3; rw [Ja3] at h9; exact h9⟩
 replace HX := Qh HX.o.drew;have HI3 := Qh (HI2.o.below ((Below.refl _ W2).drew));replace HB2 := Qh (show Below X w W2.drew from HB2.o.drew);replace HVR2 := Qh (Jaf HVR2.o ((Below.refl _ W2).drew));obtain ⟨W3, hW3⟩ : ∃ x, x = World.drew W2 := ⟨_, rfl⟩
 rw [← hW3] at HX HI3 HB2 HVR2 hQ ⊢;clear hW3 HI2 HLN;have HB2w := Qh (show Below w.heap.size w W3 from by rw [HXX.o]; exact HB2.o);refine tkH 0 ?_;refine tkH 1 ?_;refine tkH 2 ?_;refine tkH 3 ?_;refine tkH 4 ?_;refine tkH 5 ?_;refine tkH 6 ?_;refine tkH 7 ?_;refine tkH 8 ?_;refine tkH 9 ?_;refine tkH 10 ?_;refine tkH 11 ?_;refine tkH 12 ?_;refine tkH 13 ?_;refine tkH 14 ?_;refine tkH 15 ?_;refine tkH 16 ?_;refine tkH 17 ?_;refine tkH 18 ?_;refine tkH 19 ?_;refine tkH 20 ?_;refine tkH 21 ?_;refine tkH 22 ?_;refine tkH 23 ?_;refine wpAnyH_done (by kernel_rfl) ?_ _;clear hQ;go_wp2_with fail;go_ret;exact HR.o _ HB2.o
theorem Jin (h : DkAt B F d D w) (hB : B ≤ w.heap.size) (nm s : List UInt8) (hl : nm.length ≤ 140737488351232) (hs : s.length ≤ 140737488351232) (hu : D.up = true) (hn : Dk.named nm = true) (hh : Dk.has nm D.L = true) (hfi : Dk.size D.L + s.length ≤ D.room) : Calls Tryz.prog 123 #[.pointer (some ⟨d, 0, none⟩), .string (S nm), .string (S s)] w (OpR B F d (Dk.append nm s D) w) := by
 have CS := Qh (Jbt h);have CN := Qh (Jcq nm hl w);have hst : stE D = 0 := by unfold stE; rw [hu]; rfl
 rw [hst] at CS;rw [hn] at CN
 have HE := Qh (show Dk.append nm s D = (if (Dk.struck { D with L := Dk.put ⟨nm, (Dk.get nm D.L).dat ++ s, (Dk.get nm D.L).safe⟩ D.L }).1 then 51 else 0, (Dk.struck { D with L := Dk.put ⟨nm, (Dk.get nm D.L).dat ++ s, (Dk.get nm D.L).safe⟩ D.L }).2) from by
  unfold Dk.append; rw [if_neg (by rw [hu]; simp), if_neg (by rw [hn]; simp), if_neg (by rw [hh]; simp; omega)])
 have HOK := Qh (Dk.put_ok5 h.ok (f := ⟨nm, (Dk.get nm D.L).dat ++ s, (Dk.get nm D.L).safe⟩) hn (by have := Dk.get_safe h.ok.l nm; simp; omega) (.inl hh) (by simp; omega));obtain ⟨hO, mb, V, sv, c, hI, hFt, hFB⟩ := h;have HO := Qh hO;have HI := Qh hI;have HFT := Qh hFt;have HFB := Qh hFB;have HBs := Qh hB;obtain ⟨vo, vc, hv⟩ := Jac (hI.vrow nm);have hvr := hI.vrow nm;rw [hv] at hvr;have HVR := Qh hvr;have HV := Qh hv;have HL := Qh hl;have HM := Qh hI.map;have c2 : w.cell? ⟨d, 2, none⟩ = some (.map (some mb)) := hI.box.cell 2;have hrm := hO.room;have hms := hO.most;have hfw := hO.few;have hgz := Dk.get_size hO.l nm;have hgs := Dk.get_safe hO.l nm;have e1 : IntKind.i64.wrap ((D.room : Int) - (Dk.size D.L : Int)) = (D.room : Int) - (Dk.size D.L : Int) := IntWalk.i64_in _ (by omega);obtain ⟨i0, hi, hz0, hz1, hz2⟩ := info_parts Jml;have d1 : decide ((D.room : Int) - (Dk.size D.L : Int) < (s.length : Int)) = false := by simp; omega
 have HH := Qh hh;have HLEN := Qh (show D.L.length ≤ 100000 from by omega);have HBD := Qh (show B ≤ d from (hFB d (hFt d (.inl rfl))).1);have HBM := Qh (show B ≤ mb from (hFB mb (hFt mb (.inr (.inl rfl)))).1);clear hO hI hFt hFB hB hv hvr hl hs hu hst hn hh;go_enter Tryz.func123, Tryz.ntmps123;go_wp2_with fail;with_reducible refine CS.o.mono ?_
 rintro e w1 ⟨rfl, rfl⟩;go_wp2_with fail;with_reducible refine CN.o.mono ?_
 rintro e w1 ⟨rfl, rfl⟩;go_wp2_with (at_lookup; refine Ja9 _ rfl _ _ rfl rfl rfl HM.o HL.o _ HV.o ?_; rw [HH.o])
 have HX := Qh (Jae #[.slice vo (Dk.get nm D.L).dat.length vc, .int .i64 (Dk.get nm D.L).safe] 118 w);have HI2 := Qh (HI.o.below (Qa (.cells #[.slice vo (Dk.get nm D.L).dat.length vc, .int .i64 (Dk.get nm D.L).safe] 118)));have HB2 := Qh ((Below.refl w.heap.size w).alloc (Nat.le_refl _) (.cells #[.slice vo (Dk.get nm D.L).dat.length vc, .int .i64 (Dk.get nm D.L).safe] 118));have HVR2 := Qh (Jaf HVR.o ((Below.refl w.heap.size w).alloc (Nat.le_refl _) (.cells #[.slice vo (Dk.get nm D.L).dat.length vc, .int .i64 (Dk.get nm D.L).safe] 118)));generalize (w.alloc (.cells #[.slice vo (Dk.get nm D.L).dat.length vc, .int .i64 (Dk.get nm D.L).safe] 118)) = W2 at *;clear c2;generalize hXX : w.heap.size = X at *;have HXX := Qh hXX;clear hXX;have HBw := Qh (show B ≤ w.heap.size from by rw [HXX.o]; exact HBs.o);have HFBw := Qh (show ∀ b, F b → B ≤ b ∧ b < w.heap.size from by rw [HXX.o]; exact HFB.o);have hln := HI2.o.map.len Tryz.underlying49 3;rw [Ja3] at hln;have HLN := Qh hln;clear hln;refine wp_region_held_drew (S := fun W => W.cell? ⟨d, 2, none⟩ = some (.map (some mb)) ∧ W.cell? ⟨d, 0, none⟩ = some (.int .i64 D.room) ∧ W.cell? ⟨d, 1, none⟩ = some (.int .i64 (Dk.size D.L)) ∧ (Builtin.len_ #[49] 3 #[.map (some mb)]).run Tryz.prog W = .ok (.int .i64 D.L.length) W) (by kernel_rfl) ?_ (fun hQ => ?_)
 ·exact ⟨HI2.o.box.cell 2, HI2.o.box.cell 0, HI2.o.box.cell 1, by have h9 := (HI2.o.co.drew).map.len Tryz.underlying49 3; rw [Ja3] at h9; exact h9⟩
 replace HX := Qh HX.o.drew;have HI3 := Qh (HI2.o.below ((Below.refl _ W2).drew));replace HB2 := Qh (show Below X w W2.drew from HB2.o.drew);replace HVR2 := Qh (Jaf HVR2.o ((Below.refl _ W2).drew));obtain ⟨W3, hW3⟩ : ∃ x, x = World.drew W2 := ⟨_, rfl⟩
 rw [← hW3] at HX HI3 HB2 HVR2 hQ ⊢;clear hW3 HI2 HLN;have HB2w := Qh (show Below w.heap.size w W3 from by rw [HXX.o]; exact HB2.o);refine tkH 0 ?_;refine tkH 1 ?_;refine tkH 2 ?_;refine tkO 3 ?_;refine tkO 4 ?_;refine tkO 5 ?_;refine tkO 6 ?_;refine tkO 7 ?_;refine tkO 8 ?_;refine tkH 9 ?_;refine tkH 10 ?_;refine tkH 11 ?_;refine tkH 12 ?_;refine tkH 13 ?_;refine tkH 14 ?_;refine tkH 15 ?_;refine tkH 16 ?_;refine tkH 17 ?_;refine tkH 18 ?_;refine tkH 19 ?_;refine tkH 20 ?_;refine tkH 21 ?_;refine tkH 22 ?_;refine tkH 23 ?_;refine wpAnyH_done (by kernel_rfl) ?_ _;clear hQ;have x0 : W3.cell? ⟨X, 0, none⟩ = some (.slice vo (Dk.get nm D.L).dat.length vc) := HX.o.cell 0;have xf : ∀ j, W3.frozen? ⟨X, j, none⟩ = false := fun j => HX.o.free j
 go_wp2_with (at_builtin; refine Jdt _ rfl _ _ 116 9 rfl B 5 i0 Tryz.underlying116 Tryz.underlying9 hi hz0 hz1 hz2 (.slice vo (Dk.get nm D.L).dat.length vc) (Dk.get nm D.L).dat.length _ rfl HVR2.o s rfl (by omega) (Nat.le_trans HBw.o HB2.o.size) ?_; intro v4 w4 ho4 hg4 ha4; obtain ⟨a4, c4, rfl⟩ := Jac ho4; have HO4 := Qh ho4; have HG4 := Qh hg4; have HA4 := Qh ha4; have HX4 := Qh (HX.o.grown hg4 (fun e => Jao HX.o HVR2.o (by decide) X e.symm rfl)); have y0 : w4.cell? ⟨X, 0, none⟩ = some (.slice vo (Dk.get nm D.L).dat.length vc) := HX4.o.cell 0; have yf : ∀ j, w4.frozen? ⟨X, j, none⟩ = false := fun j => HX4.o.free j; clear ho4 hg4 ha4 x0 xf)
 have HX5 := Qh (HX4.o.set 0 (.slice a4 ((Dk.get nm D.L).dat.length + s.length) c4));have HW5 := Qh (show Wr (fun q => q = X) w4 (w4.setCell ⟨X, 0, none⟩ (.slice a4 ((Dk.get nm D.L).dat.length + s.length) c4)) from Jai _ _ _ rfl);generalize (w4.setCell ⟨X, 0, none⟩ (.slice a4 ((Dk.get nm D.L).dat.length + s.length) c4)) = W5 at *;clear y0 yf;have HGW := Qh (show Wr (fun q => (Value.slice vo (Dk.get nm D.L).dat.length vc).ownBlock = some q) W3 w4 from Jby HG4.o (fun q hq => .inl hq));have HMX := Qh (Jbs HI3.o.map HX.o);have HXD := Qh (show d ≠ X from fun e => by have h1 := HX.o; have h2 := HI3.o.box; unfold Bk at h1 h2; rw [e, h1] at h2; simp at h2);have HM5 := Qh (Jcp (Jcp HI3.o.map HGW.o (fun hq => Jd9 HI3.o.map HVR2.o mb hq rfl)) HW5.o HMX.o);have HB5 := Qh ((HI3.o.box.wr HGW.o (fun hq => Jao HI3.o.box HVR2.o (by decide) d hq rfl)).wr HW5.o HXD.o);have HS2 := Qh (show W5.cell? ⟨d, 2, none⟩ = some (.map (some mb)) from HB5.o.cell 2);have HS0 := Qh (show W5.cell? ⟨X, 0, none⟩ = some (.slice a4 ((Dk.get nm D.L).dat.length + s.length) c4) from HX5.o.cell 0);have HS1 := Qh (show W5.cell? ⟨X, 1, none⟩ = some (.int .i64 (Dk.get nm D.L).safe) from HX5.o.cell 1);refine Jaj (S := fun V => V.cell? ⟨d, 2, none⟩ = some (.map (some mb)) ∧ V.cell? ⟨X, 0, none⟩ = some (.slice a4 ((Dk.get nm D.L).dat.length + s.length) c4) ∧ V.cell? ⟨X, 1, none⟩ = some (.int .i64 (Dk.get nm D.L).safe)) 6 (by kernel_rfl) ?_ (fun hQ => ?_)
 ·exact ⟨HS2.o, HS0.o, HS1.o⟩
 replace HM5 := Qh HM5.o.drew;replace HB5 := Qh HB5.o.drew;replace HW5 := Qh HW5.o.drew;obtain ⟨W7, hW7⟩ : ∃ x, x = World.drew W5 := ⟨_, rfl⟩
 rw [← hW7] at HM5 HB5 HW5 hQ ⊢;clear hW7;refine tkY 0 ?_;refine tkY 1 ?_;refine tkY 2 ?_;refine tkZ 3 [6] ?_;refine tkY 4 ?_;refine tkZ 5 [6] ?_;refine tqL 6 fun K hK => ?_
 refine Jcl (f := (⟨nm, (Dk.get nm D.L).dat ++ s, (Dk.get nm D.L).safe⟩ : Dk.Fl)) (u := .slice a4 ((Dk.get nm D.L).dat.length + s.length) c4) (by rfl) _ _ _ (by rfl) (by rfl) (by rfl) (by rfl) HM5.o HLEN.o HL.o ?_;intro w8 hm8 ht8;refine hK.out _ _ ?_;clear hK K;refine wpAny_done (by kernel_rfl) ?_ _;have HAS := Qh (Jik HI.o HO.o HFT.o HV.o HB2w.o HX.o (by rw [HXX.o]; exact Nat.le_refl _) HO4.o HG4.o HA4.o HW5.o hm8 ht8 (by omega));have HB8 := Qh (HB5.o.wr (Ja7 (A := fun q => q = mb) ht8 rfl) (fun e => HI3.o.co.ne e.symm));have HSZ8 := Qh (Nat.le_trans (Nat.le_trans (show w.heap.size ≤ W3.heap.size from HB2.o.size) (Nat.le_trans HG4.o.size HW5.o.size)) (show W7.heap.size ≤ w8.heap.size from (Ja7 (A := fun q => q = mb) ht8 rfl).size));clear hm8 ht8 hQ;have b1 : w8.cell? ⟨d, 1, none⟩ = some (.int .i64 (Dk.size D.L)) := HB8.o.cell 1;have bf : ∀ j, w8.frozen? ⟨d, j, none⟩ = false := fun j => HB8.o.free j
 go_wp2_with fail;have HSZ9 := Qh (show w.heap.size ≤ (w8.setCell ⟨d, 1, none⟩ (.int .i64 ((Dk.size D.L : Int) + (s.length : Int)))).heap.size from by simp only [World.setCell, Array.size_modify]; exact HSZ8.o);generalize (w8.setCell ⟨d, 1, none⟩ (.int .i64 ((Dk.size D.L : Int) + (s.length : Int)))) = W9 at *;clear b1 bf e1;have CK := Qh (Jde HAS.o.1 HBD.o HBM.o HOK.o);with_reducible refine CK.o.mono ?_
 rintro e W10 ⟨rfl, hR, hW10⟩;have HRA := Qh (Jdf ⟨rfl, hR, hW10⟩ HOK.o HSZ9.o HBw.o HFBw.o HAS.o.2.1);have HRW := Qh (Jdg ⟨rfl, hR, hW10⟩ HAS.o.2.2 HAS.o.2.1);clear hR hW10;generalize hst : (Dk.struck { D with L := Dk.put ⟨nm, (Dk.get nm D.L).dat ++ s, (Dk.get nm D.L).safe⟩ D.L }).1 = bb at *;clear hst;cases bb with
 | true =>
  go_wp2_with fail;go_ret;exact ⟨by rw [HE.o]; rfl, by rw [HE.o]; exact HRA.o, HRW.o⟩
 | false =>
  go_wp2_with fail;go_ret;exact ⟨by rw [HE.o]; rfl, by rw [HE.o]; exact HRA.o, HRW.o⟩
theorem Jj1 (h : DkAt B F d D w) (hB : B ≤ w.heap.size) (nm s : List UInt8) (hl : nm.length ≤ 140737488351232) (hs : s.length ≤ 140737488351232) (hu : D.up = true) (hn : Dk.named nm = true) (hh : Dk.has nm D.L = false) (hfe : D.L.length ≠ 1024) (hfi : Dk.size D.L + s.length ≤ D.room) : Calls Tryz.prog 123 #[.pointer (some ⟨d, 0, none⟩), .string (S nm), .string (S s)] w (OpR B F d (Dk.append nm s D) w) := by
 have CS := Qh (Jbt h);have CN := Qh (Jcq nm hl w);have hst : stE D = 0 := by unfold stE; rw [hu]; rfl
 rw [hst] at CS;rw [hn] at CN
 have HE := Qh (show Dk.append nm s D = (if (Dk.struck { D with L := Dk.put ⟨nm, (Dk.get nm D.L).dat ++ s, (Dk.get nm D.L).safe⟩ D.L }).1 then 51 else 0, (Dk.struck { D with L := Dk.put ⟨nm, (Dk.get nm D.L).dat ++ s, (Dk.get nm D.L).safe⟩ D.L }).2) from by
  unfold Dk.append; rw [if_neg (by rw [hu]; simp), if_neg (by rw [hn]; simp), if_neg (by rw [hh]; simp; omega)])
 have HOK := Qh (Dk.put_ok5 h.ok (f := ⟨nm, (Dk.get nm D.L).dat ++ s, (Dk.get nm D.L).safe⟩) hn (by have := Dk.get_safe h.ok.l nm; simp; omega) (.inr hfe) (by simp; omega));obtain ⟨hO, mb, V, sv, c, hI, hFt, hFB⟩ := h;have HO := Qh hO;have HI := Qh hI;have HFT := Qh hFt;have HFB := Qh hFB;have HBs := Qh hB;obtain ⟨vo, vc, hv⟩ := Jac (hI.vrow nm);have hvr := hI.vrow nm;rw [hv] at hvr;have HVR := Qh hvr;have HV := Qh hv;have HL := Qh hl;have HM := Qh hI.map;have c2 : w.cell? ⟨d, 2, none⟩ = some (.map (some mb)) := hI.box.cell 2;have hrm := hO.room;have hms := hO.most;have hfw := hO.few;have hgz := Dk.get_size hO.l nm;have hgs := Dk.get_safe hO.l nm;have e1 : IntKind.i64.wrap ((D.room : Int) - (Dk.size D.L : Int)) = (D.room : Int) - (Dk.size D.L : Int) := IntWalk.i64_in _ (by omega);obtain ⟨i0, hi, hz0, hz1, hz2⟩ := info_parts Jml;have d2 : ((D.L.length : Int) == 1024) = false := by simp; omega
 have d1 : decide ((D.room : Int) - (Dk.size D.L : Int) < (s.length : Int)) = false := by simp; omega
 have HH := Qh hh;have HLEN := Qh (show D.L.length ≤ 100000 from by omega);have HBD := Qh (show B ≤ d from (hFB d (hFt d (.inl rfl))).1);have HBM := Qh (show B ≤ mb from (hFB mb (hFt mb (.inr (.inl rfl)))).1);clear hO hI hFt hFB hB hv hvr hl hs hu hst hn hh;go_enter Tryz.func123, Tryz.ntmps123;go_wp2_with fail;with_reducible refine CS.o.mono ?_
 rintro e w1 ⟨rfl, rfl⟩;go_wp2_with fail;with_reducible refine CN.o.mono ?_
 rintro e w1 ⟨rfl, rfl⟩;go_wp2_with (at_lookup; refine Ja9 _ rfl _ _ rfl rfl rfl HM.o HL.o _ HV.o ?_; rw [HH.o])
 have HX := Qh (Jae #[.slice vo (Dk.get nm D.L).dat.length vc, .int .i64 (Dk.get nm D.L).safe] 118 w);have HI2 := Qh (HI.o.below (Qa (.cells #[.slice vo (Dk.get nm D.L).dat.length vc, .int .i64 (Dk.get nm D.L).safe] 118)));have HB2 := Qh ((Below.refl w.heap.size w).alloc (Nat.le_refl _) (.cells #[.slice vo (Dk.get nm D.L).dat.length vc, .int .i64 (Dk.get nm D.L).safe] 118));have HVR2 := Qh (Jaf HVR.o ((Below.refl w.heap.size w).alloc (Nat.le_refl _) (.cells #[.slice vo (Dk.get nm D.L).dat.length vc, .int .i64 (Dk.get nm D.L).safe] 118)));generalize (w.alloc (.cells #[.slice vo (Dk.get nm D.L).dat.length vc, .int .i64 (Dk.get nm D.L).safe] 118)) = W2 at *;clear c2;generalize hXX : w.heap.size = X at *;have HXX := Qh hXX;clear hXX;have HBw := Qh (show B ≤ w.heap.size from by rw [HXX.o]; exact HBs.o);have HFBw := Qh (show ∀ b, F b → B ≤ b ∧ b < w.heap.size from by rw [HXX.o]; exact HFB.o);have hln := HI2.o.map.len Tryz.underlying49 3;rw [Ja3] at hln;have HLN := Qh hln;clear hln;refine wp_region_held_drew (S := fun W => W.cell? ⟨d, 2, none⟩ = some (.map (some mb)) ∧ W.cell? ⟨d, 0, none⟩ = some (.int .i64 D.room) ∧ W.cell? ⟨d, 1, none⟩ = some (.int .i64 (Dk.size D.L)) ∧ (Builtin.len_ #[49] 3 #[.map (some mb)]).run Tryz.prog W = .ok (.int .i64 D.L.length) W) (by kernel_rfl) ?_ (fun hQ => ?_)
 ·exact ⟨HI2.o.box.cell 2, HI2.o.box.cell 0, HI2.o.box.cell 1, by have h9 := (HI2.o.co.drew).map.len Tryz.underlying49 3; rw [Ja3] at h9; exact h9⟩
 replace HX := Qh HX.o.drew;have HI3 := Qh (HI2.o.below ((Below.refl _ W2).drew));replace HB2 := Qh (show Below X w W2.drew from HB2.o.drew);replace HVR2 := Qh (Jaf HVR2.o ((Below.refl _ W2).drew));obtain ⟨W3, hW3⟩ : ∃ x, x = World.drew W2 := ⟨_, rfl⟩
 rw [← hW3] at HX HI3 HB2 HVR2 hQ ⊢;clear hW3 HI2 HLN;have HB2w := Qh (show Below w.heap.size w W3 from by rw [HXX.o]; exact HB2.o);refine tkH 0 ?_;refine tkH 1 ?_;refine tkH 2 ?_;refine tkH 3 ?_;refine tkH 4 ?_;refine tkH 5 ?_;refine tkH 6 ?_;refine tkH 7 ?_;refine tkH 8 ?_;refine tkH 9 ?_;refine tkH 10 ?_;refine tkH 11 ?_;refine tkH 12 ?_;refine tkH 13 ?_;refine tkH 14 ?_;refine tkH 15 ?_;refine tkH 16 ?_;refine tkH 17 ?_;refine tkH 18 ?_;refine tkH 19 ?_;refine tkH 20 ?_;refine tkH 21 ?_;refine tkH 22 ?_;refine tkH 23 ?_;refine wpAnyH_done (by kernel_rfl) ?_ _;clear hQ;have x0 : W3.cell? ⟨X, 0, none⟩ = some (.slice vo (Dk.get nm D.L).dat.length vc) := HX.o.cell 0;have xf : ∀ j, W3.frozen? ⟨X, j, none⟩ = false := fun j => HX.o.free j
 go_wp2_with (at_builtin; refine Jdt _ rfl _ _ 116 9 rfl B 5 i0 Tryz.underlying116 Tryz.underlying9 hi hz0 hz1 hz2 (.slice vo (Dk.get nm D.L).dat.length vc) (Dk.get nm D.L).dat.length _ rfl HVR2.o s rfl (by omega) (Nat.le_trans HBw.o HB2.o.size) ?_; intro v4 w4 ho4 hg4 ha4; obtain ⟨a4, c4, rfl⟩ := Jac ho4; have HO4 := Qh ho4; have HG4 := Qh hg4; have HA4 := Qh ha4; have HX4 := Qh (HX.o.grown hg4 (fun e => Jao HX.o HVR2.o (by decide) X e.symm rfl)); have y0 : w4.cell? ⟨X, 0, none⟩ = some (.slice vo (Dk.get nm D.L).dat.length vc) := HX4.o.cell 0; have yf : ∀ j, w4.frozen? ⟨X, j, none⟩ = false := fun j => HX4.o.free j; clear ho4 hg4 ha4 x0 xf)
 have HX5 := Qh (HX4.o.set 0 (.slice a4 ((Dk.get nm D.L).dat.length + s.length) c4));have HW5 := Qh (show Wr (fun q => q = X) w4 (w4.setCell ⟨X, 0, none⟩ (.slice a4 ((Dk.get nm D.L).dat.length + s.length) c4)) from Jai _ _ _ rfl);generalize (w4.setCell ⟨X, 0, none⟩ (.slice a4 ((Dk.get nm D.L).dat.length + s.length) c4)) = W5 at *;clear y0 yf;have HGW := Qh (show Wr (fun q => (Value.slice vo (Dk.get nm D.L).dat.length vc).ownBlock = some q) W3 w4 from Jby HG4.o (fun q hq => .inl hq));have HMX := Qh (Jbs HI3.o.map HX.o);have HXD := Qh (show d ≠ X from fun e => by have h1 := HX.o; have h2 := HI3.o.box; unfold Bk at h1 h2; rw [e, h1] at h2; simp at h2);have HM5 := Qh (Jcp (Jcp HI3.o.map HGW.o (fun hq => Jd9 HI3.o.map HVR2.o mb hq rfl)) HW5.o HMX.o);have HB5 := Qh ((HI3.o.box.wr HGW.o (fun hq => Jao HI3.o.box HVR2.o (by decide) d hq rfl)).wr HW5.o HXD.o);have HS2 := Qh (show W5.cell? ⟨d, 2, none⟩ = some (.map (some mb)) from HB5.o.cell 2);have HS0 := Qh (show W5.cell? ⟨X, 0, none⟩ = some (.slice a4 ((Dk.get nm D.L).dat.length + s.length) c4) from HX5.o.cell 0);have HS1 := Qh (show W5.cell? ⟨X, 1, none⟩ = some (.int .i64 (Dk.get nm D.L).safe) from HX5.o.cell 1);refine Jaj (S := fun V => V.cell? ⟨d, 2, none⟩ = some (.map (some mb)) ∧ V.cell? ⟨X, 0, none⟩ = some (.slice a4 ((Dk.get nm D.L).dat.length + s.length) c4) ∧ V.cell? ⟨X, 1, none⟩ = some (.int .i64 (Dk.get nm D.L).safe)) 6 (by kernel_rfl) ?_ (fun hQ => ?_)
 ·exact ⟨HS2.o, HS0.o, HS1.o⟩
 replace HM5 := Qh HM5.o.drew;replace HB5 := Qh HB5.o.drew;replace HW5 := Qh HW5.o.drew;obtain ⟨W7, hW7⟩ : ∃ x, x = World.drew W5 := ⟨_, rfl⟩
 rw [← hW7] at HM5 HB5 HW5 hQ ⊢;clear hW7;refine tkY 0 ?_;refine tkY 1 ?_;refine tkY 2 ?_;refine tkZ 3 [6] ?_;refine tkY 4 ?_;refine tkZ 5 [6] ?_;refine tqL 6 fun K hK => ?_
 refine Jcl (f := (⟨nm, (Dk.get nm D.L).dat ++ s, (Dk.get nm D.L).safe⟩ : Dk.Fl)) (u := .slice a4 ((Dk.get nm D.L).dat.length + s.length) c4) (by rfl) _ _ _ (by rfl) (by rfl) (by rfl) (by rfl) HM5.o HLEN.o HL.o ?_;intro w8 hm8 ht8;refine hK.out _ _ ?_;clear hK K;refine wpAny_done (by kernel_rfl) ?_ _;have HAS := Qh (Jik HI.o HO.o HFT.o HV.o HB2w.o HX.o (by rw [HXX.o]; exact Nat.le_refl _) HO4.o HG4.o HA4.o HW5.o hm8 ht8 (by omega));have HB8 := Qh (HB5.o.wr (Ja7 (A := fun q => q = mb) ht8 rfl) (fun e => HI3.o.co.ne e.symm));have HSZ8 := Qh (Nat.le_trans (Nat.le_trans (show w.heap.size ≤ W3.heap.size from HB2.o.size) (Nat.le_trans HG4.o.size HW5.o.size)) (show W7.heap.size ≤ w8.heap.size from (Ja7 (A := fun q => q = mb) ht8 rfl).size));clear hm8 ht8 hQ;have b1 : w8.cell? ⟨d, 1, none⟩ = some (.int .i64 (Dk.size D.L)) := HB8.o.cell 1;have bf : ∀ j, w8.frozen? ⟨d, j, none⟩ = false := fun j => HB8.o.free j
 go_wp2_with fail;have HSZ9 := Qh (show w.heap.size ≤ (w8.setCell ⟨d, 1, none⟩ (.int .i64 ((Dk.size D.L : Int) + (s.length : Int)))).heap.size from by simp only [World.setCell, Array.size_modify]; exact HSZ8.o);generalize (w8.setCell ⟨d, 1, none⟩ (.int .i64 ((Dk.size D.L : Int) + (s.length : Int)))) = W9 at *;clear b1 bf e1;have CK := Qh (Jde HAS.o.1 HBD.o HBM.o HOK.o);with_reducible refine CK.o.mono ?_
 rintro e W10 ⟨rfl, hR, hW10⟩;have HRA := Qh (Jdf ⟨rfl, hR, hW10⟩ HOK.o HSZ9.o HBw.o HFBw.o HAS.o.2.1);have HRW := Qh (Jdg ⟨rfl, hR, hW10⟩ HAS.o.2.2 HAS.o.2.1);clear hR hW10;generalize hst : (Dk.struck { D with L := Dk.put ⟨nm, (Dk.get nm D.L).dat ++ s, (Dk.get nm D.L).safe⟩ D.L }).1 = bb at *;clear hst;cases bb with
 | true =>
  go_wp2_with fail;go_ret;exact ⟨by rw [HE.o]; rfl, by rw [HE.o]; exact HRA.o, HRW.o⟩
 | false =>
  go_wp2_with fail;go_ret;exact ⟨by rw [HE.o]; rfl, by rw [HE.o]; exact HRA.o, HRW.o⟩
theorem Jpv (h : DkAt B F d D w) (hB : B ≤ w.heap.size) (nm s : List UInt8) (hl : nm.length ≤ 140737488351232) (hs : s.length ≤ 140737488351232) : Calls Tryz.prog 123 #[.pointer (some ⟨d, 0, none⟩), .string (S nm), .string (S s)] w (OpR B F d (Dk.append nm s D) w) := by
 cases hu : D.up with
 | false => exact Jil h hB nm s hl hs hu
 | true =>
  cases hn : Dk.named nm with
  | false => exact Jj0 h hB nm s hl hs hu hn
  | true =>
   by_cases hf : D.room < Dk.size D.L + s.length
   ·cases hh : Dk.has nm D.L with
    | true => exact Jim h hB nm s hl hs hu hn hh hf
    | false =>
     by_cases h4 : D.L.length = 1024
     ·exact Jet h hB nm s hl hs hu hn hh h4
     ·exact Jhr h hB nm s hl hs hu hn hh h4 hf
   ·cases hh : Dk.has nm D.L with
    | true => exact Jin h hB nm s hl hs hu hn hh (by omega)
    | false =>
     by_cases h4 : D.L.length = 1024
     ·exact Jet h hB nm s hl hs hu hn hh h4
     ·exact Jj1 h hB nm s hl hs hu hn hh h4 (by omega)
end
end
end Go.Proofs.YtmammmjmipgmoaaGreatDoor
