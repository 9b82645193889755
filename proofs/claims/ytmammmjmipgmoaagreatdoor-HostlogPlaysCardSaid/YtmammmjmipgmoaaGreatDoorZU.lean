import Derived.Test.YtmammmjmipgmoaaGreatDoorZR
import Derived.Test.YtmammmjmipgmoaaGreatDoorShelf
import Derived.Test.YtmammmjmipgmoaaGreatDoorZQh
set_option linter.unusedVariables false
set_option maxRecDepth 100000
set_option maxHeartbeats 16000000
namespace Go.Proofs.YtmammmjmipgmoaaGreatDoor
section
open Go Go.RowKit Go.Maps
section
variable {B d mb : Nat} {V : List UInt8 → Value} {sv : Value} {c : Cs} {D' : Dk.St} {W5 : World} {F : Nat → Prop}
theorem Jmm (hI : DkIn B d mb V sv c D' W5) (hO : Dk.Ok D') {L0 : List Dk.Fl} (hL : D'.L = L0) {nm : List UInt8} {vo : Option Addr} {vc n : Nat} {w w8 : World} (hvn : V nm = .slice vo (Dk.get nm L0).dat.length vc) (hh : Dk.has nm L0 = true) (hn : Dk.named nm = true)
  (hmap : w8.ownsMap Tryz.prog 9 Ja8 mb n (datM (upV V nm (.slice vo (Dk.get nm L0).dat.length vc)) (Dk.put ⟨nm, (Dk.get nm L0).dat, (Dk.get nm L0).dat.length⟩ D'.L))) (ht : W5.mapTurned w8 mb)
  (hs : w.heap.size ≤ W5.heap.size) (hB : B ≤ w.heap.size) (hF : ∀ b, F b → B ≤ b ∧ b < w.heap.size) (hFt : ∀ b, Ft d mb V c D' b → F b) (hW : Wr F w W5) :
  DkAt B (gr F w w8) d { D' with L := Dk.put ⟨nm, (Dk.get nm L0).dat, (Dk.get nm L0).dat.length⟩ L0 } w8 ∧ Wr F w w8 := by
 subst hL;have hw : Wr (fun q => q = mb) W5 w8 := Ja7 ht rfl;have hco := hI.co;have hvo : vOf V nm D'.L = V nm := if_pos hh
 have hszp : Dk.size (Dk.put ⟨nm, (Dk.get nm D'.L).dat, (Dk.get nm D'.L).dat.length⟩ D'.L) = Dk.size D'.L := by
  have := Dk.size_put hO.l ⟨nm, (Dk.get nm D'.L).dat, (Dk.get nm D'.L).dat.length⟩;simp only at this;omega
 have hrow := hI.vrow nm;rw [hvo, hvn] at hrow
 have hb : ∀ q, (Value.slice vo (Dk.get nm D'.L).dat.length vc).ownBlock = some q → ∃ g ∈ D'.L, (V g.name).ownBlock = some q := fun q hq => by
  rw [← hvn, ← hvo] at hq;obtain ⟨g, hg, _, e⟩ := Jbu hq;exact ⟨g, hg, e⟩
 have h1 := hI.putA (f := ⟨nm, (Dk.get nm D'.L).dat, (Dk.get nm D'.L).dat.length⟩) (v := .slice vo (Dk.get nm D'.L).dat.length vc) hw (fun q hq => .inr (.inl hq)) (by
   have h2 := hI.box.wr hw (fun e => hco.ne e.symm);unfold dkC at h2 ⊢;simp only at h2 ⊢;rw [hszp]
   exact h2) hmap (Jal hrow hw (fun q hq => by
   obtain ⟨g, hg, e⟩ := hb q hq
   exact (hco.rne hg e).2.1)) (fun q hq => .inl (by rw [hvo, hvn]; exact hq))
 refine ⟨h1.at (Dk.put_ok5 hO hn (Nat.le_refl _) (.inl hh) (by have := hO.room; simp only; omega)) (Nat.le_trans hs hw.size) hB hF (Jmk (fun q hq => .inl (hb q hq)) hFt), hW.step hw (fun x hx => .inl (by rw [hx]; exact hFt _ (.inr (.inl rfl))))⟩
end
section
variable {B d mb : Nat} {V : List UInt8 → Value} {sv : Value} {c : Cs} {D' : Dk.St} {W3 : World} {F : Nat → Prop}
theorem Jj2 (hI : DkIn B d mb V sv c D' W3) (hO : Dk.Ok D') {L0 : List Dk.Fl} (hL : D'.L = L0) {nm : List UInt8} {w W4 : World} (hC : DkCo B d mb V sv { D' with L := Dk.del nm D'.L } W4) (hw : Wr (fun q => q = d ∨ q = mb) W3 W4)
  (hs : w.heap.size ≤ W3.heap.size) (hB : B ≤ w.heap.size) (hF : ∀ b, F b → B ≤ b ∧ b < w.heap.size) (hFt : ∀ b, Ft d mb V c D' b → F b) (hW : Wr F w W3) :
  DkAt B (gr F w W4) d { D' with L := Dk.del nm L0 } W4 ∧ Wr F w W4 := by
 subst hL;have h1 : DkIn B d mb V sv c { D' with L := Dk.del nm D'.L } W4 := hC.in (hI.setW hw (fun q hq => hq.elim .inl (fun e => .inr (.inl e))));refine ⟨h1.at (Dk.del_ok5 hO nm) (Nat.le_trans hs hw.size) hB hF (fun b hb => .inl (hFt b ?_)), hW.step hw (fun x hx => .inl (hFt x (hx.elim .inl (fun e => .inr (.inl e)))))⟩;rcases hb with e | e | ⟨f, hf, hq⟩ | hx
 ·exact .inl e
 ·exact .inr (.inl e)
 ·exact .inr (.inr (.inl ⟨f, (Dk.mem_del.1 hf).1, hq⟩))
 ·exact .inr (.inr (.inr hx))
end
section
variable {B d mb : Nat} {V : List UInt8 → Value} {sv : Value} {c : Cs} {D : Dk.St} {w : World} {F : Nat → Prop}
theorem Jk6 (h : DkAt B F d D w) (hB : B ≤ w.heap.size) (nm : List UInt8) (hl : nm.length ≤ 140737488351232) (hu : D.up = false) : Calls Tryz.prog 125 #[.pointer (some ⟨d, 0, none⟩), .string (S nm)] w (OpR B F d (Dk.sync nm D) w) := by
 have HR := Qh (fun w' (hb : Below w.heap.size w w') => show OpR B F d (Dk.sync nm D) w (.returned (.int .i64 51)) w' from by
  have e : Dk.sync nm D = (51, D) := by unfold Dk.sync; rw [if_pos hu]
  rw [e]; exact Ja0 h hB hb 51)
 obtain ⟨hO, mb, V, sv, c, hI, hFt, hFB⟩ := h;have CF := Qh (Jcg ⟨hO, mb, V, sv, c, hI, hFt, hFB⟩ hI nm hl);have hE : fndE nm D = 51 := by unfold fndE; rw [if_pos hu]
 have hV : fndV V nm D = .slice none 0 0 := by unfold fndV; rw [hE]; rfl
 have hS : fndS nm D = 0 := by unfold fndS; rw [hE]; rfl
 rw [hE, hV, hS] at CF;clear hO hI hFt hFB hB hl hE hV hS  hu;go_enter Tryz.func125, Tryz.ntmps125;go_wp2_with fail;with_reducible refine CF.o.mono ?_
 rintro e w1 ⟨rfl, hb⟩;have HB := Qh hb;clear hb;go_wp2_with fail;go_ret;exact HR.o _ (HB.o.alloc HB.o.size _)
theorem Jk7 (h : DkAt B F d D w) (hB : B ≤ w.heap.size) (nm : List UInt8) (hl : nm.length ≤ 140737488351232) (hu : D.up = true) (hh : Dk.has nm D.L = false) : Calls Tryz.prog 125 #[.pointer (some ⟨d, 0, none⟩), .string (S nm)] w (OpR B F d (Dk.sync nm D) w) := by
 have HR := Qh (fun w' (hb : Below w.heap.size w w') => show OpR B F d (Dk.sync nm D) w (.returned (.int .i64 4)) w' from by
  have e : Dk.sync nm D = (4, D) := by unfold Dk.sync; rw [if_neg (by rw [hu]; simp), if_pos hh]
  rw [e]; exact Ja0 h hB hb 4)
 obtain ⟨hO, mb, V, sv, c, hI, hFt, hFB⟩ := h;have CF := Qh (Jcg ⟨hO, mb, V, sv, c, hI, hFt, hFB⟩ hI nm hl);have hE : fndE nm D = 4 := by unfold fndE; rw [if_neg (by rw [hu]; simp), if_pos hh]
 have hV : fndV V nm D = .slice none 0 0 := by unfold fndV; rw [hE]; rfl
 have hS : fndS nm D = 0 := by unfold fndS; rw [hE]; rfl
 rw [hE, hV, hS] at CF;clear hO hI hFt hFB hB hl hE hV hS  hu hh;go_enter Tryz.func125, Tryz.ntmps125;go_wp2_with fail;with_reducible refine CF.o.mono ?_
 rintro e w1 ⟨rfl, hb⟩;have HB := Qh hb;clear hb;go_wp2_with fail;go_ret;exact HR.o _ (HB.o.alloc HB.o.size _)
theorem Joe (h : DkAt B F d D w) (hB : B ≤ w.heap.size) (nm : List UInt8) (hl : nm.length ≤ 140737488351232) (hu : D.up = true) (hh : Dk.has nm D.L = true) : Calls Tryz.prog 125 #[.pointer (some ⟨d, 0, none⟩), .string (S nm)] w (OpR B F d (Dk.sync nm D) w) := by
 have HE := Qh (show Dk.sync nm D = if (Dk.struck D).1 then (51, (Dk.struck D).2) else (0, { (Dk.struck D).2 with L := Dk.put ⟨nm, (Dk.get nm D.L).dat, (Dk.get nm D.L).dat.length⟩ D.L }) from by unfold Dk.sync; rw [if_neg (by rw [hu]; simp), if_neg (by rw [hh]; simp)]);obtain ⟨hO, mb, V, sv, c, hI, hFt, hFB⟩ := h;have CF := Qh (Jcg ⟨hO, mb, V, sv, c, hI, hFt, hFB⟩ hI nm hl);have hE : fndE nm D = 0 := by unfold fndE; rw [if_neg (by rw [hu]; simp), if_neg (by rw [hh]; simp)]
 have hV : fndV V nm D = V nm := by unfold fndV; rw [hE]; rfl
 have hS : fndS nm D = (Dk.get nm D.L).safe := by unfold fndS; rw [hE]; rfl
 rw [hE, hV, hS] at CF;obtain ⟨vo, vc, hv⟩ := Jac (hI.vrow nm);have hvr := hI.vrow nm;rw [hv] at hvr;have hvn : V nm = .slice vo (Dk.get nm D.L).dat.length vc := by rw [← hv]; exact (if_pos hh).symm
 rw [hvn] at CF;have HO := Qh hO;have HI := Qh hI;have HFT := Qh hFt;have HFB := Qh hFB;have HBs := Qh hB;have HL := Qh hl;have HVN := Qh hvn;have HHH := Qh hh;have HBD := Qh (show B ≤ d from (hFB d (hFt d (.inl rfl))).1);have HBM := Qh (show B ≤ mb from (hFB mb (hFt mb (.inr (.inl rfl)))).1);have hgz := Dk.get_size hO.l nm;have hrm := hO.room;have hms := hO.most;have hfw := hO.few;have HNM := Qh (show Dk.named nm = true from by have h1 := hO.l.named _ (Dk.get_mem hh).1; rw [(Dk.get_mem hh).2] at h1; exact h1);have HVR := Qh hvr;clear hO hI hFt hFB hB hv hvr hl hu hh hE hV hS hvn;go_enter Tryz.func125, Tryz.ntmps125;go_wp2_with fail;with_reducible refine CF.o.mono ?_
 rintro e w1 ⟨rfl, hb⟩;have HB1 := Qh hb;clear hb CF;go_wp2_with fail;have HX := Qh (Jae #[.slice vo (Dk.get nm D.L).dat.length vc, .int .i64 (Dk.get nm D.L).safe] 118 w1);have HB2 := Qh (show Below w.heap.size w (w1.alloc (.cells #[.slice vo (Dk.get nm D.L).dat.length vc, .int .i64 (Dk.get nm D.L).safe] 118)) from HB1.o.alloc HB1.o.size _);have HXW := Qh (show w.heap.size ≤ w1.heap.size from HB1.o.size);generalize (w1.alloc (.cells #[.slice vo (Dk.get nm D.L).dat.length vc, .int .i64 (Dk.get nm D.L).safe] 118)) = W2 at *;generalize w1.heap.size = X at *;clear HB1;have CK := Qh (Jde (HI.o.below HB2.o) HBD.o HBM.o HO.o);with_reducible refine CK.o.mono ?_
 rintro e W3 ⟨rfl, hR, hW3⟩;have HRA := Qh (Jdf ⟨rfl, hR, hW3⟩ HO.o HB2.o.size HBs.o HFB.o (fun b hb => .inl (HFT.o b hb)));have HRW := Qh (Jdg ⟨rfl, hR, hW3⟩ (Jad HB2.o) (fun b hb => .inl (HFT.o b hb)));obtain ⟨V3, sv3, hI3, hV3, hV4⟩ := hR;have HI3 := Qh hI3;have HV3 := Qh hV3;have HV4 := Qh hV4;have HW3 := Qh hW3;clear hI3 hV3 hV4 hW3 CK;have HKP := Qh (fun hq => Dk.struck_keep (D := D) hq);generalize hst : (Dk.struck D).1 = bb at *;clear hst;cases bb with
 | true =>
  go_wp2_with fail;go_ret;refine ⟨?_, ?_, HRW.o⟩
  ·rw [HE.o]; rfl
  ·rw [HE.o]; exact HRA.o
 | false =>
  have HV5 := Qh (HV4.o rfl);rw [HV5.o] at HI3;clear HV4 HV5 HV3 HRA;have HDL := Qh (HKP.o rfl).1;have HDR := Qh (HKP.o rfl).2;have HOK3 := Qh (Dk.struck_ok5 HO.o);have HFT3 := Qh (show ∀ b, Ft d mb V c (Dk.struck D).2 b → F b from fun b hb => HFT.o b (Jdu (fun _ => rfl) hb));have HSZ3 := Qh (show w.heap.size ≤ W3.heap.size from Nat.le_trans HB2.o.size HW3.o.size)
  have HX3 := Qh (HX.o.wr HW3.o (fun hq => by
   rcases hq with e | e | ⟨h1, e⟩
   ·have := HI.o.box.lt; have := HXW.o; omega
   ·have := HI.o.map.lt; have := HXW.o; omega
   ·have h2 := HI.o.set
    cases hs : D.set with
    | none => exact h1 hs
    | some p =>
     rw [hs] at h2
     have := h2.2.1.lt; have := HXW.o; omega))
  have x0 : W3.cell? ⟨X, 0, none⟩ = some (.slice vo (Dk.get nm D.L).dat.length vc) := HX3.o.cell 0;have x1 : W3.cell? ⟨X, 1, none⟩ = some (.int .i64 (Dk.get nm D.L).safe) := HX3.o.cell 1;have xf : ∀ j, W3.frozen? ⟨X, j, none⟩ = false := fun j => HX3.o.free j
  go_wp2_with fail;have HX4 := Qh (HX3.o.set 1 (.int .i64 (Dk.get nm D.L).dat.length));have HW4 := Qh (show Wr (fun q => q = X) W3 (W3.setCell ⟨X, 1, none⟩ (.int .i64 (Dk.get nm D.L).dat.length)) from Jai _ _ _ rfl);have HNX := Qh (HI3.o.apart HX3.o (by decide) (by decide) (by decide) (by decide) (by decide));have HI4 := Qh (HI3.o.wr HW4.o (fun b hb e => HNX.o (e ▸ hb)));generalize (W3.setCell ⟨X, 1, none⟩ (.int .i64 (Dk.get nm D.L).dat.length)) = W4 at *;clear x0 x1 xf;have HS2 := Qh (show W4.cell? ⟨d, 2, none⟩ = some (.map (some mb)) from HI4.o.box.cell 2);have HS0 := Qh (show W4.cell? ⟨X, 0, none⟩ = some (.slice vo (Dk.get nm D.L).dat.length vc) from HX4.o.cell 0);have HS1 := Qh (show W4.cell? ⟨X, 1, none⟩ = some (.int .i64 (Dk.get nm D.L).dat.length) from HX4.o.cell 1);refine Jaj (S := fun V => V.cell? ⟨d, 2, none⟩ = some (.map (some mb)) ∧ V.cell? ⟨X, 0, none⟩ = some (.slice vo (Dk.get nm D.L).dat.length vc) ∧ V.cell? ⟨X, 1, none⟩ = some (.int .i64 (Dk.get nm D.L).dat.length)) 6 (by kernel_rfl) ?_ (fun hQ => ?_)
  ·exact ⟨HS2.o, HS0.o, HS1.o⟩
  have HI5 := Qh (HI4.o.below ((Below.refl _ W4).drew));have HW5 := Qh (HW4.o.drew);obtain ⟨W5, hW5⟩ : ∃ x, x = World.drew W4 := ⟨_, rfl⟩
  rw [← hW5] at HI5 HW5 hQ ⊢;clear hW5;have HLEN := Qh (show (Dk.struck D).2.L.length ≤ 100000 from by rw [HDL.o]; omega);refine tkY 0 ?_;refine tkY 1 ?_;refine tkY 2 ?_;refine tkZ 3 [6] ?_;refine tkY 4 ?_;refine tkZ 5 [6] ?_;refine tqL 6 fun K hK => ?_
  refine Jcl (f := (⟨nm, (Dk.get nm D.L).dat, (Dk.get nm D.L).dat.length⟩ : Dk.Fl)) (u := .slice vo (Dk.get nm D.L).dat.length vc) (by rfl) _ _ _ (by rfl) (by rfl) (by rfl) (by rfl) HI5.o.map HLEN.o HL.o ?_;intro w8 hm8 ht8;refine hK.out _ _ ?_;clear hK K;refine wpAny_done (by kernel_rfl) ?_ _;have HFIN := Qh (Jmm HI5.o HOK3.o HDL.o HVN.o HHH.o HNM.o hm8 ht8 (Nat.le_trans HSZ3.o HW5.o.size) HBs.o HFB.o HFT3.o (show Wr F w W5 from HRW.o.step HW5.o (fun x hx => .inr (by rw [hx]; exact HXW.o))));clear hm8 ht8 hQ;go_wp2_with fail;go_ret;refine ⟨?_, ?_, HFIN.o.2⟩
  ·rw [HE.o]; rfl
  ·rw [HE.o]; exact HFIN.o.1
theorem sync5 (h : DkAt B F d D w) (hB : B ≤ w.heap.size) (nm : List UInt8) (hl : nm.length ≤ 140737488351232) : Calls Tryz.prog 125 #[.pointer (some ⟨d, 0, none⟩), .string (S nm)] w (OpR B F d (Dk.sync nm D) w) := by
 cases hu : D.up with
 | false => exact Jk6 h hB nm hl hu
 | true =>
  cases hh : Dk.has nm D.L with
  | false => exact Jk7 h hB nm hl hu hh
  | true => exact Joe h hB nm hl hu hh
theorem Jio (h : DkAt B F d D w) (hB : B ≤ w.heap.size) (nm : List UInt8) (hl : nm.length ≤ 140737488351232) (hu : D.up = false) : Calls Tryz.prog 75 #[.pointer (some ⟨d, 0, none⟩), .string (S nm)] w (OpR B F d (Dk.remove nm D) w) := by
 have HR := Qh (fun w' (hb : Below w.heap.size w w') => show OpR B F d (Dk.remove nm D) w (.returned (.int .i64 51)) w' from by
  have e : Dk.remove nm D = (51, D) := by unfold Dk.remove; rw [if_pos hu]
  rw [e]; exact Ja0 h hB hb 51)
 obtain ⟨hO, mb, V, sv, c, hI, hFt, hFB⟩ := h;have CF := Qh (Jcg ⟨hO, mb, V, sv, c, hI, hFt, hFB⟩ hI nm hl);have hE : fndE nm D = 51 := by unfold fndE; rw [if_pos hu]
 have hV : fndV V nm D = .slice none 0 0 := by unfold fndV; rw [hE]; rfl
 have hS : fndS nm D = 0 := by unfold fndS; rw [hE]; rfl
 rw [hE, hV, hS] at CF;clear hO hI hFt hFB hB hl hE hV hS  hu;go_enter Tryz.func75, Tryz.ntmps75;go_wp2_with fail;with_reducible refine CF.o.mono ?_
 rintro e w1 ⟨rfl, hb⟩;have HB := Qh hb;clear hb;go_wp2_with fail;go_ret;exact HR.o _ (HB.o.alloc HB.o.size _)
theorem Jip (h : DkAt B F d D w) (hB : B ≤ w.heap.size) (nm : List UInt8) (hl : nm.length ≤ 140737488351232) (hu : D.up = true) (hh : Dk.has nm D.L = false) : Calls Tryz.prog 75 #[.pointer (some ⟨d, 0, none⟩), .string (S nm)] w (OpR B F d (Dk.remove nm D) w) := by
 have HR := Qh (fun w' (hb : Below w.heap.size w w') => show OpR B F d (Dk.remove nm D) w (.returned (.int .i64 4)) w' from by
  have e : Dk.remove nm D = (4, D) := by unfold Dk.remove; rw [if_neg (by rw [hu]; simp), if_pos hh]
  rw [e]; exact Ja0 h hB hb 4)
 obtain ⟨hO, mb, V, sv, c, hI, hFt, hFB⟩ := h;have CF := Qh (Jcg ⟨hO, mb, V, sv, c, hI, hFt, hFB⟩ hI nm hl);have hE : fndE nm D = 4 := by unfold fndE; rw [if_neg (by rw [hu]; simp), if_pos hh]
 have hV : fndV V nm D = .slice none 0 0 := by unfold fndV; rw [hE]; rfl
 have hS : fndS nm D = 0 := by unfold fndS; rw [hE]; rfl
 rw [hE, hV, hS] at CF;clear hO hI hFt hFB hB hl hE hV hS  hu hh;go_enter Tryz.func75, Tryz.ntmps75;go_wp2_with fail;with_reducible refine CF.o.mono ?_
 rintro e w1 ⟨rfl, hb⟩;have HB := Qh hb;clear hb;go_wp2_with fail;go_ret;exact HR.o _ (HB.o.alloc HB.o.size _)
theorem Jk8 (h : DkAt B F d D w) (hB : B ≤ w.heap.size) (nm : List UInt8) (hl : nm.length ≤ 140737488351232) (hu : D.up = true) (hh : Dk.has nm D.L = true) : Calls Tryz.prog 75 #[.pointer (some ⟨d, 0, none⟩), .string (S nm)] w (OpR B F d (Dk.remove nm D) w) := by
 have HE := Qh (show Dk.remove nm D = if (Dk.struck D).1 then (51, (Dk.struck D).2) else (0, { (Dk.struck D).2 with L := Dk.del nm D.L }) from by unfold Dk.remove; rw [if_neg (by rw [hu]; simp), if_neg (by rw [hh]; simp)]);obtain ⟨hO, mb, V, sv, c, hI, hFt, hFB⟩ := h;have CF := Qh (Jcg ⟨hO, mb, V, sv, c, hI, hFt, hFB⟩ hI nm hl);have hE : fndE nm D = 0 := by unfold fndE; rw [if_neg (by rw [hu]; simp), if_neg (by rw [hh]; simp)]
 have hV : fndV V nm D = V nm := by unfold fndV; rw [hE]; rfl
 have hS : fndS nm D = (Dk.get nm D.L).safe := by unfold fndS; rw [hE]; rfl
 rw [hE, hV, hS] at CF;obtain ⟨vo, vc, hv⟩ := Jac (hI.vrow nm);have hvr := hI.vrow nm;rw [hv] at hvr;have hvn : V nm = .slice vo (Dk.get nm D.L).dat.length vc := by rw [← hv]; exact (if_pos hh).symm
 rw [hvn] at CF;have HO := Qh hO;have HI := Qh hI;have HFT := Qh hFt;have HFB := Qh hFB;have HBs := Qh hB;have HL := Qh hl;have HVN := Qh hvn;have HHH := Qh hh;have HBD := Qh (show B ≤ d from (hFB d (hFt d (.inl rfl))).1);have HBM := Qh (show B ≤ mb from (hFB mb (hFt mb (.inr (.inl rfl)))).1);have hgz := Dk.get_size hO.l nm;have hrm := hO.room;have hms := hO.most;have hfw := hO.few;clear hO hI hFt hFB hB hv hvr hl hu hh hE hV hS hvn;go_enter Tryz.func75, Tryz.ntmps75;go_wp2_with fail;with_reducible refine CF.o.mono ?_
 rintro e w1 ⟨rfl, hb⟩;have HB1 := Qh hb;clear hb CF;go_wp2_with fail;have HX := Qh (Jae #[.slice vo (Dk.get nm D.L).dat.length vc, .int .i64 (Dk.get nm D.L).safe] 118 w1);have HB2 := Qh (show Below w.heap.size w (w1.alloc (.cells #[.slice vo (Dk.get nm D.L).dat.length vc, .int .i64 (Dk.get nm D.L).safe] 118)) from HB1.o.alloc HB1.o.size _);have HXW := Qh (show w.heap.size ≤ w1.heap.size from HB1.o.size);generalize (w1.alloc (.cells #[.slice vo (Dk.get nm D.L).dat.length vc, .int .i64 (Dk.get nm D.L).safe] 118)) = W2 at *;generalize w1.heap.size = X at *;clear HB1;have CK := Qh (Jde (HI.o.below HB2.o) HBD.o HBM.o HO.o);with_reducible refine CK.o.mono ?_
 rintro e W3 ⟨rfl, hR, hW3⟩;have HRA := Qh (Jdf ⟨rfl, hR, hW3⟩ HO.o HB2.o.size HBs.o HFB.o (fun b hb => .inl (HFT.o b hb)));have HRW := Qh (Jdg ⟨rfl, hR, hW3⟩ (Jad HB2.o) (fun b hb => .inl (HFT.o b hb)));obtain ⟨V3, sv3, hI3, hV3, hV4⟩ := hR;have HI3 := Qh hI3;have HV3 := Qh hV3;have HV4 := Qh hV4;have HW3 := Qh hW3;clear hI3 hV3 hV4 hW3 CK;have HKP := Qh (fun hq => Dk.struck_keep (D := D) hq);generalize hst : (Dk.struck D).1 = bb at *;clear hst;cases bb with
 | true =>
  go_wp2_with fail;go_ret;refine ⟨?_, ?_, HRW.o⟩
  ·rw [HE.o]; rfl
  ·rw [HE.o]; exact HRA.o
 | false =>
  have HV5 := Qh (HV4.o rfl);rw [HV5.o] at HI3;clear HV4 HV5 HV3 HRA;have HDL := Qh (HKP.o rfl).1;have HDR := Qh (HKP.o rfl).2;have HOK3 := Qh (Dk.struck_ok5 HO.o);have HFT3 := Qh (show ∀ b, Ft d mb V c (Dk.struck D).2 b → F b from fun b hb => HFT.o b (Jdu (fun _ => rfl) hb));have HSZ3 := Qh (show w.heap.size ≤ W3.heap.size from Nat.le_trans HB2.o.size HW3.o.size)
  have HX3 := Qh (HX.o.wr HW3.o (fun hq => by
   rcases hq with e | e | ⟨h1, e⟩
   ·have := HI.o.box.lt; have := HXW.o; omega
   ·have := HI.o.map.lt; have := HXW.o; omega
   ·have h2 := HI.o.set
    cases hs : D.set with
    | none => exact h1 hs
    | some p =>
     rw [hs] at h2
     have := h2.2.1.lt; have := HXW.o; omega))
  go_wp2_with fail;have CD := Qh (drop5 HI3.o.co HOK3.o.l (by rw [HDL.o]; omega) nm HL.o);with_reducible refine CD.o.mono ?_
  rintro e W4 ⟨rfl, hC, hW4⟩;have HFIN := Qh (Jj2 HI3.o HOK3.o HDL.o hC hW4 HSZ3.o HBs.o HFB.o HFT3.o HRW.o);clear hC hW4;go_wp2_with fail;go_ret;refine ⟨?_, ?_, HFIN.o.2⟩
  ·rw [HE.o]; rfl
  ·rw [HE.o]; exact HFIN.o.1
theorem Jpw (h : DkAt B F d D w) (hB : B ≤ w.heap.size) (nm : List UInt8) (hl : nm.length ≤ 140737488351232) : Calls Tryz.prog 75 #[.pointer (some ⟨d, 0, none⟩), .string (S nm)] w (OpR B F d (Dk.remove nm D) w) := by
 cases hu : D.up with
 | false => exact Jio h hB nm hl hu
 | true =>
  cases hh : Dk.has nm D.L with
  | false => exact Jip h hB nm hl hu hh
  | true => exact Jk8 h hB nm hl hu hh
end
end
section
open Go Go.RowKit Go.Maps
namespace Dk
theorem del_del (a b : List UInt8) (L : List Fl) : del a (del b L) = del b (del a L) := by
 unfold del;rw [List.filter_filter, List.filter_filter];congr 1
 funext f
 exact Bool.and_comm _ _
theorem del_idem (a : List UInt8) (L : List Fl) : del a (del a L) = del a L := by
 unfold del;rw [List.filter_filter];congr 1
 funext f
 simp
theorem ren_eq {a b : List UInt8} (L : List Fl) (h : a ≠ b) : put ⟨b, (get a L).dat, (get a L).safe⟩ (del a (del b L)) = ren a b L := by
 unfold ren put;rw [if_neg h];simp only;rw [del_del a b L, del_idem]
theorem get_del {a b : List UInt8} {L : List Fl} (h : OkL L) (hab : a ≠ b) : get a (del b L) = get a L ∧ has a (del b L) = has a L := by
 have hh : has a (del b L) = has a L := by rw [has_del]; simp [hab]
 refine ⟨?_, hh⟩;cases hx : has a L with
 | false => rw [get_none hx, get_none (by rw [hh]; exact hx)]
 | true =>
  obtain ⟨h1, h2⟩ := get_mem hx;have h3 := get_of (h.del b).ne (mem_del.2 ⟨h1, by rw [h2]; exact hab⟩);rw [h2] at h3;exact h3
theorem ren_size {a b : List UInt8} {L : List Fl} (h : OkL L) (hab : a ≠ b) (hh : has a L = true) : size (ren a b L) = size (del b L) := by
 rw [← ren_eq L hab];have h1 := size_put ((h.del b).del a) ⟨b, (get a L).dat, (get a L).safe⟩;have h2 := size_del (nm := a) (h.del b).ne;rw [(get_del h hab).1] at h2;have h3 : get b (del a (del b L)) = fl0 := get_none (by rw [has_del, has_del]; simp);simp only at h1;rw [h3] at h1;simp only [fl0, List.length_nil] at h1;omega
theorem ren_ok5 {D : St} (h : Ok D) {a b : List UInt8} (hn : named b = true) (hh : has a D.L = true) : Ok { D with L := ren a b D.L } := by
 by_cases hab : a = b
 ·unfold ren
  rw [if_pos hab];exact with_ok5 h h.l h.few h.room
 ·refine with_ok5 h ?_ ?_ ?_
  ·rw [← ren_eq D.L hab]
   exact ((h.l.del b).del a).put hn (get_safe h.l a)
  ·rw [← ren_eq D.L hab]
   have h1 := len_put ((h.l.del b).del a) ⟨b, (get a D.L).dat, (get a D.L).safe⟩;have h2 := len_del (nm := a) (h.l.del b).ne;rw [(get_del h.l hab).2, hh] at h2;have h3 := len_del (nm := b) h.l.ne;have h4 : has b (del a (del b D.L)) = false := by rw [has_del, has_del]; simp
   simp only at h1;rw [h4] at h1;have h5 := h.few;simp at h1 h2;omega
  ·rw [ren_size h.l hab hh]
   have h3 := size_del (nm := b) h.l.ne;have := h.room;omega
end Dk
section
variable {B d mb : Nat} {V : List UInt8 → Value} {sv : Value} {c : Cs} {D' : Dk.St} {W3 : World} {F : Nat → Prop}
theorem Jj3 (hI : DkIn B d mb V sv c D' W3) (hO : Dk.Ok D') {L0 : List Dk.Fl} (hL : D'.L = L0) {nm to : List UInt8} (hne : nm ≠ to) {vo : Option Addr} {vc n : Nat} {w W4 w6 W7 w8 : World} (hvn : V nm = .slice vo (Dk.get nm L0).dat.length vc) (hh : Dk.has nm L0 = true) (hn : Dk.named to = true)
  (hC : DkCo B d mb V sv { D' with L := Dk.del to D'.L } W4) (hw : Wr (fun q => q = d ∨ q = mb) W3 W4) (ht6 : W4.mapTurned w6 mb) (hw7 : Wr (fun _ => False) w6 W7) (ht8 : W7.mapTurned w8 mb)
  (hmap : w8.ownsMap Tryz.prog 9 Ja8 mb n (datM (upV V to (.slice vo (Dk.get nm L0).dat.length vc)) (Dk.put ⟨to, (Dk.get nm L0).dat, (Dk.get nm L0).safe⟩ (Dk.del nm (Dk.del to L0)))))
  (hs : w.heap.size ≤ W3.heap.size) (hB : B ≤ w.heap.size) (hF : ∀ b, F b → B ≤ b ∧ b < w.heap.size) (hFt : ∀ b, Ft d mb V c D' b → F b) (hW : Wr F w W3) :
  DkAt B (gr F w w8) d { D' with L := Dk.ren nm to L0 } w8 ∧ Wr F w w8 := by
 subst hL;have hco := hI.co;have hw48 : Wr (fun q => q = mb) W4 w8 := ((Ja7 (A := fun q => q = mb) ht6 rfl).step hw7 (fun x hx => hx.elim)).step (Ja7 (A := fun q => q = mb) ht8 rfl) (fun x hx => .inl hx);have hw38 : Wr (fun q => q = d ∨ q = mb) W3 w8 := hw.step hw48 (fun x hx => .inl (.inr hx));obtain ⟨hg1, hg2⟩ := Dk.get_mem hh;have hrow := hco.row _ hg1;rw [hg2, hvn] at hrow;have hbl : ∀ q, (Value.slice vo (Dk.get nm D'.L).dat.length vc).ownBlock = some q → (V (Dk.get nm D'.L).name).ownBlock = some q := fun q hq => by rw [hg2, hvn]; exact hq
 have hD2 : DkCo B d mb V sv { D' with L := Dk.del to D'.L } W4 := hC;have hren := Dk.ren_eq D'.L hne;have hrs := Dk.ren_size hO.l hne hh
 have h1 : DkCo B d mb (upV V to (.slice vo (Dk.get nm D'.L).dat.length vc)) sv { D' with L := Dk.ren nm to D'.L } w8 := by
  refine ⟨?_, ?_, fun g hg => ?_, fun g hg g' hg' hgn q hq hq' => ?_⟩
  ·have h2 := hC.box.wr hw48 (fun e => hC.ne e.symm)
   unfold dkC at h2 ⊢;simp only at h2 ⊢;rw [hrs];exact h2
  ·rw [hren] at hmap
   exact Jeb hmap (by rw [Ja3]; exact Nat.le_refl _)
  ·have hg0 : g ∈ Dk.ren nm to D'.L := hg
   rw [← hren] at hg0;rcases Dk.mem_put.1 hg0 with rfl | ⟨hm, hn'⟩
   ·rw [Jbp]
    exact Jal hrow hw38 (fun q hq => by
     have h2 := hco.rne hg1 (hbl q hq);rintro (e | e)
     ·exact h2.1 e
     ·exact h2.2.1 e)
   ·rw [Jbb V _ hn']
    have hgm := (Dk.mem_del.1 (Dk.mem_del.1 hm).1).1
    exact Jal (hco.row g hgm) hw38 (fun q hq => by
     have h2 := hco.rne hgm hq;rintro (e | e)
     ·exact h2.1 e
     ·exact h2.2.1 e)
  ·have hg0 : g ∈ Dk.ren nm to D'.L := hg
   have hg0' : g' ∈ Dk.ren nm to D'.L := hg';rw [← hren] at hg0 hg0'
   have key : ∀ x ∈ Dk.del nm (Dk.del to D'.L), ∀ q, (Value.slice vo (Dk.get nm D'.L).dat.length vc).ownBlock = some q → (V x.name).ownBlock ≠ some q := fun x hx q hq => by
    have hx1 := Dk.mem_del.1 hx;exact hco.ap _ hg1 x (Dk.mem_del.1 hx1.1).1 (fun e => hx1.2 (e.symm.trans hg2)) q (hbl q hq)
   rcases Dk.mem_put.1 hg0 with e1 | ⟨hm, hn1⟩
   ·rcases Dk.mem_put.1 hg0' with e2 | ⟨hm', hn2⟩
    ·exact hgn (e1.trans e2.symm ▸ rfl)
    ·rw [e1, Jbp] at hq
     rw [Jbb V _ hn2] at hq';exact key g' hm' q hq hq'
   ·rw [Jbb V _ hn1] at hq
    rcases Dk.mem_put.1 hg0' with e2 | ⟨hm', hn2⟩
    ·rw [e2, Jbp] at hq'
     exact key g hm q hq' hq
    ·rw [Jbb V _ hn2] at hq'
     exact hco.ap g (Dk.mem_del.1 (Dk.mem_del.1 hm).1).1 g' (Dk.mem_del.1 (Dk.mem_del.1 hm').1).1 hgn q hq hq'
 have h2 : DkIn B d mb (upV V to (.slice vo (Dk.get nm D'.L).dat.length vc)) sv c { D' with L := Dk.ren nm to D'.L } w8 := h1.in (hI.setW hw38 (fun q hq => hq.elim .inl (fun e => .inr (.inl e))));refine ⟨h2.at (Dk.ren_ok5 hO hn hh) (Nat.le_trans hs hw38.size) hB hF (fun b hb => .inl ?_), hW.step hw38 (fun x hx => .inl (hFt x (hx.elim .inl (fun e => .inr (.inl e)))))⟩;rcases hb with e | e | ⟨f, hf, hq⟩ | hx
 ·exact hFt _ (.inl e)
 ·exact hFt _ (.inr (.inl e))
 ·have hf0 : f ∈ Dk.ren nm to D'.L := hf
  rw [← hren] at hf0;rcases Dk.mem_put.1 hf0 with rfl | ⟨hm, hn1⟩
  ·rw [Jbp] at hq
   exact hFt _ (.inr (.inr (.inl ⟨_, hg1, hbl b hq⟩)))
  ·rw [Jbb V _ hn1] at hq
   exact hFt _ (.inr (.inr (.inl ⟨f, (Dk.mem_del.1 (Dk.mem_del.1 hm).1).1, hq⟩)))
 ·exact hFt _ (.inr (.inr (.inr hx)))
end
section
variable {B d mb : Nat} {V : List UInt8 → Value} {sv : Value} {c : Cs} {D : Dk.St} {w : World} {F : Nat → Prop}
theorem Jiq (h : DkAt B F d D w) (hB : B ≤ w.heap.size) (nm to : List UInt8) (hl : nm.length ≤ 140737488351232) (hl2 : to.length ≤ 140737488351232) (hu : D.up = false) : Calls Tryz.prog 160 #[.pointer (some ⟨d, 0, none⟩), .string (S nm), .string (S to)] w (OpR B F d (Dk.rename nm to D) w) := by
 have HR := Qh (fun w' (hb : Below w.heap.size w w') => show OpR B F d (Dk.rename nm to D) w (.returned (.int .i64 51)) w' from by
  have e : Dk.rename nm to D = (51, D) := by unfold Dk.rename; rw [if_pos hu]
  rw [e]; exact Ja0 h hB hb 51)
 obtain ⟨hO, mb, V, sv, c, hI, hFt, hFB⟩ := h;have CF := Qh (Jcg ⟨hO, mb, V, sv, c, hI, hFt, hFB⟩ hI nm hl);have hE : fndE nm D = 51 := by unfold fndE; rw [if_pos hu]
 have hV : fndV V nm D = .slice none 0 0 := by unfold fndV; rw [hE]; rfl
 have hS : fndS nm D = 0 := by unfold fndS; rw [hE]; rfl
 rw [hE, hV, hS] at CF;clear hO hI hFt hFB hB hl hE hV hS hl2 hu;go_enter Tryz.func160, Tryz.ntmps160;go_wp2_with fail;with_reducible refine CF.o.mono ?_
 rintro e w1 ⟨rfl, hb⟩;have HB := Qh hb;clear hb;go_wp2_with fail;go_ret;exact HR.o _ (HB.o.alloc HB.o.size _)
theorem Jir (h : DkAt B F d D w) (hB : B ≤ w.heap.size) (nm to : List UInt8) (hl : nm.length ≤ 140737488351232) (hl2 : to.length ≤ 140737488351232) (hu : D.up = true) (hh : Dk.has nm D.L = false) : Calls Tryz.prog 160 #[.pointer (some ⟨d, 0, none⟩), .string (S nm), .string (S to)] w (OpR B F d (Dk.rename nm to D) w) := by
 have HR := Qh (fun w' (hb : Below w.heap.size w w') => show OpR B F d (Dk.rename nm to D) w (.returned (.int .i64 4)) w' from by
  have e : Dk.rename nm to D = (4, D) := by unfold Dk.rename; rw [if_neg (by rw [hu]; simp), if_pos hh]
  rw [e]; exact Ja0 h hB hb 4)
 obtain ⟨hO, mb, V, sv, c, hI, hFt, hFB⟩ := h;have CF := Qh (Jcg ⟨hO, mb, V, sv, c, hI, hFt, hFB⟩ hI nm hl);have hE : fndE nm D = 4 := by unfold fndE; rw [if_neg (by rw [hu]; simp), if_pos hh]
 have hV : fndV V nm D = .slice none 0 0 := by unfold fndV; rw [hE]; rfl
 have hS : fndS nm D = 0 := by unfold fndS; rw [hE]; rfl
 rw [hE, hV, hS] at CF;clear hO hI hFt hFB hB hl hE hV hS hl2 hu hh;go_enter Tryz.func160, Tryz.ntmps160;go_wp2_with fail;with_reducible refine CF.o.mono ?_
 rintro e w1 ⟨rfl, hb⟩;have HB := Qh hb;clear hb;go_wp2_with fail;go_ret;exact HR.o _ (HB.o.alloc HB.o.size _)
theorem Jj4 (h : DkAt B F d D w) (hB : B ≤ w.heap.size) (nm to : List UInt8) (hl : nm.length ≤ 140737488351232) (hl2 : to.length ≤ 140737488351232) (hu : D.up = true) (hh : Dk.has nm D.L = true) (hn : Dk.named to = false) : Calls Tryz.prog 160 #[.pointer (some ⟨d, 0, none⟩), .string (S nm), .string (S to)] w (OpR B F d (Dk.rename nm to D) w) := by
 have HR := Qh (fun w' (hb : Below w.heap.size w w') => show OpR B F d (Dk.rename nm to D) w (.returned (.int .i64 2)) w' from by
  have e : Dk.rename nm to D = (2, D) := by unfold Dk.rename; rw [if_neg (by rw [hu]; simp), if_neg (by rw [hh]; simp), if_pos hn]
  rw [e]; exact Ja0 h hB hb 2)
 obtain ⟨hO, mb, V, sv, c, hI, hFt, hFB⟩ := h;have CF := Qh (Jcg ⟨hO, mb, V, sv, c, hI, hFt, hFB⟩ hI nm hl);have hE : fndE nm D = 0 := by unfold fndE; rw [if_neg (by rw [hu]; simp), if_neg (by rw [hh]; simp)]
 have hV : fndV V nm D = V nm := by unfold fndV; rw [hE]; rfl
 have hS : fndS nm D = (Dk.get nm D.L).safe := by unfold fndS; rw [hE]; rfl
 rw [hE, hV, hS] at CF;obtain ⟨vo, vc, hv⟩ := Jac (hI.vrow nm);have hvr := hI.vrow nm;rw [hv] at hvr;have hvn : V nm = .slice vo (Dk.get nm D.L).dat.length vc := by rw [← hv]; exact (if_pos hh).symm
 rw [hvn] at CF;have HO := Qh hO;have HI := Qh hI;have HFT := Qh hFt;have HFB := Qh hFB;have HBs := Qh hB;have HL := Qh hl;have HVN := Qh hvn;have HHH := Qh hh;have HBD := Qh (show B ≤ d from (hFB d (hFt d (.inl rfl))).1);have HBM := Qh (show B ≤ mb from (hFB mb (hFt mb (.inr (.inl rfl)))).1);have hgz := Dk.get_size hO.l nm;have hrm := hO.room;have hms := hO.most;have hfw := hO.few;have CN := Qh (fun W => Jcq to hl2 W);rw [hn] at CN;clear hO hI hFt hFB hB hv hvr hl hl2 hu hh hE hV hS hvn hn;go_enter Tryz.func160, Tryz.ntmps160;go_wp2_with fail;with_reducible refine CF.o.mono ?_
 rintro e w1 ⟨rfl, hb⟩;have HB1 := Qh hb;clear hb CF;go_wp2_with fail;with_reducible refine (CN.o _).mono ?_
 rintro e w2 ⟨rfl, rfl⟩;go_wp2_with fail;go_ret;exact HR.o _ (HB1.o.alloc HB1.o.size _)
theorem Jis (h : DkAt B F d D w) (hB : B ≤ w.heap.size) (nm to : List UInt8) (hl : nm.length ≤ 140737488351232) (hl2 : to.length ≤ 140737488351232) (hu : D.up = true) (hh : Dk.has nm D.L = true) (hn : Dk.named to = true) (hsame : nm = to) : Calls Tryz.prog 160 #[.pointer (some ⟨d, 0, none⟩), .string (S nm), .string (S to)] w (OpR B F d (Dk.rename nm to D) w) := by
 have HE := Qh (show Dk.rename nm to D = if (Dk.struck D).1 then (51, (Dk.struck D).2) else (0, { (Dk.struck D).2 with L := Dk.ren nm to D.L }) from by unfold Dk.rename; rw [if_neg (by rw [hu]; simp), if_neg (by rw [hh]; simp), if_neg (by rw [hn]; simp)]);obtain ⟨hO, mb, V, sv, c, hI, hFt, hFB⟩ := h;have CF := Qh (Jcg ⟨hO, mb, V, sv, c, hI, hFt, hFB⟩ hI nm hl);have hE : fndE nm D = 0 := by unfold fndE; rw [if_neg (by rw [hu]; simp), if_neg (by rw [hh]; simp)]
 have hV : fndV V nm D = V nm := by unfold fndV; rw [hE]; rfl
 have hS : fndS nm D = (Dk.get nm D.L).safe := by unfold fndS; rw [hE]; rfl
 rw [hE, hV, hS] at CF;obtain ⟨vo, vc, hv⟩ := Jac (hI.vrow nm);have hvr := hI.vrow nm;rw [hv] at hvr;have hvn : V nm = .slice vo (Dk.get nm D.L).dat.length vc := by rw [← hv]; exact (if_pos hh).symm
 rw [hvn] at CF;have HO := Qh hO;have HI := Qh hI;have HFT := Qh hFt;have HFB := Qh hFB;have HBs := Qh hB;have HL := Qh hl;have HVN := Qh hvn;have HHH := Qh hh;have HBD := Qh (show B ≤ d from (hFB d (hFt d (.inl rfl))).1);have HBM := Qh (show B ≤ mb from (hFB mb (hFt mb (.inr (.inl rfl)))).1);have hgz := Dk.get_size hO.l nm;have hrm := hO.room;have hms := hO.most;have hfw := hO.few;have CN := Qh (fun W => Jcq to hl2 W);rw [hn] at CN;subst hsame;have HRN := Qh (show Dk.ren nm nm D.L = D.L from by unfold Dk.ren; rw [if_pos rfl]);clear hO hI hFt hFB hB hv hvr hl hl2 hu hh hE hV hS hvn hn;go_enter Tryz.func160, Tryz.ntmps160;go_wp2_with fail;with_reducible refine CF.o.mono ?_
 rintro e w1 ⟨rfl, hb⟩;have HB1 := Qh hb;clear hb CF;go_wp2_with fail;with_reducible refine (CN.o _).mono ?_
 rintro e w2 ⟨rfl, rfl⟩;go_wp2_with fail;have HX := Qh (Jae #[.slice vo (Dk.get nm D.L).dat.length vc, .int .i64 (Dk.get nm D.L).safe] 118 w1);have HB2 := Qh (show Below w.heap.size w (w1.alloc (.cells #[.slice vo (Dk.get nm D.L).dat.length vc, .int .i64 (Dk.get nm D.L).safe] 118)) from HB1.o.alloc HB1.o.size _);have HXW := Qh (show w.heap.size ≤ w1.heap.size from HB1.o.size);generalize (w1.alloc (.cells #[.slice vo (Dk.get nm D.L).dat.length vc, .int .i64 (Dk.get nm D.L).safe] 118)) = W2 at *;generalize w1.heap.size = X at *;clear HB1;have CK := Qh (Jde (HI.o.below HB2.o) HBD.o HBM.o HO.o);with_reducible refine CK.o.mono ?_
 rintro e W3 ⟨rfl, hR, hW3⟩;have HRA := Qh (Jdf ⟨rfl, hR, hW3⟩ HO.o HB2.o.size HBs.o HFB.o (fun b hb => .inl (HFT.o b hb)));have HRW := Qh (Jdg ⟨rfl, hR, hW3⟩ (Jad HB2.o) (fun b hb => .inl (HFT.o b hb)));obtain ⟨V3, sv3, hI3, hV3, hV4⟩ := hR;have HI3 := Qh hI3;have HV3 := Qh hV3;have HV4 := Qh hV4;have HW3 := Qh hW3;clear hI3 hV3 hV4 hW3 CK;have HKP := Qh (fun hq => Dk.struck_keep (D := D) hq);generalize hst : (Dk.struck D).1 = bb at *;clear hst;cases bb with
 | true =>
  go_wp2_with fail;go_ret;refine ⟨?_, ?_, HRW.o⟩
  ·rw [HE.o]; rfl
  ·rw [HE.o]; exact HRA.o
 | false =>
  have HDL := Qh (HKP.o rfl).1;go_wp2_with fail;go_ret;have HEQ := Qh (show ({ (Dk.struck D).2 with L := Dk.ren nm nm D.L } : Dk.St) = (Dk.struck D).2 from by rw [HRN.o, ← HDL.o]);refine ⟨?_, ?_, HRW.o⟩
  ·rw [HE.o]; rfl
  ·rw [HE.o]; show DkAt B (gr F w W3) d { (Dk.struck D).2 with L := Dk.ren nm nm D.L } W3; rw [HEQ.o]; exact HRA.o
theorem Jk9 (h : DkAt B F d D w) (hB : B ≤ w.heap.size) (nm to : List UInt8) (hl : nm.length ≤ 140737488351232) (hl2 : to.length ≤ 140737488351232) (hu : D.up = true) (hh : Dk.has nm D.L = true) (hn : Dk.named to = true) (hne : nm ≠ to) : Calls Tryz.prog 160 #[.pointer (some ⟨d, 0, none⟩), .string (S nm), .string (S to)] w (OpR B F d (Dk.rename nm to D) w) := by
 have HE := Qh (show Dk.rename nm to D = if (Dk.struck D).1 then (51, (Dk.struck D).2) else (0, { (Dk.struck D).2 with L := Dk.ren nm to D.L }) from by unfold Dk.rename; rw [if_neg (by rw [hu]; simp), if_neg (by rw [hh]; simp), if_neg (by rw [hn]; simp)]);obtain ⟨hO, mb, V, sv, c, hI, hFt, hFB⟩ := h;have CF := Qh (Jcg ⟨hO, mb, V, sv, c, hI, hFt, hFB⟩ hI nm hl);have hE : fndE nm D = 0 := by unfold fndE; rw [if_neg (by rw [hu]; simp), if_neg (by rw [hh]; simp)]
 have hV : fndV V nm D = V nm := by unfold fndV; rw [hE]; rfl
 have hS : fndS nm D = (Dk.get nm D.L).safe := by unfold fndS; rw [hE]; rfl
 rw [hE, hV, hS] at CF;obtain ⟨vo, vc, hv⟩ := Jac (hI.vrow nm);have hvr := hI.vrow nm;rw [hv] at hvr;have hvn : V nm = .slice vo (Dk.get nm D.L).dat.length vc := by rw [← hv]; exact (if_pos hh).symm
 rw [hvn] at CF;have HO := Qh hO;have HI := Qh hI;have HFT := Qh hFt;have HFB := Qh hFB;have HBs := Qh hB;have HL := Qh hl;have HVN := Qh hvn;have HHH := Qh hh;have HBD := Qh (show B ≤ d from (hFB d (hFt d (.inl rfl))).1);have HBM := Qh (show B ≤ mb from (hFB mb (hFt mb (.inr (.inl rfl)))).1);have hgz := Dk.get_size hO.l nm;have hrm := hO.room;have hms := hO.most;have hfw := hO.few;have CN := Qh (fun W => Jcq to hl2 W);rw [hn] at CN;have HNE := Qh hne;have q1 : (nm == to) = false := by simpa using hne
 have q2 : (nm != to) = true := by simpa using hne
 have HNT := Qh hn;have HL2 := Qh hl2;clear hO hI hFt hFB hB hv hvr hl hl2 hu hh hE hV hS hvn hn hne;go_enter Tryz.func160, Tryz.ntmps160;go_wp2_with fail;with_reducible refine CF.o.mono ?_
 rintro e w1 ⟨rfl, hb⟩;have HB1 := Qh hb;clear hb CF;go_wp2_with fail;with_reducible refine (CN.o _).mono ?_
 rintro e w2 ⟨rfl, rfl⟩;go_wp2_with fail;have HX := Qh (Jae #[.slice vo (Dk.get nm D.L).dat.length vc, .int .i64 (Dk.get nm D.L).safe] 118 w1);have HB2 := Qh (show Below w.heap.size w (w1.alloc (.cells #[.slice vo (Dk.get nm D.L).dat.length vc, .int .i64 (Dk.get nm D.L).safe] 118)) from HB1.o.alloc HB1.o.size _);have HXW := Qh (show w.heap.size ≤ w1.heap.size from HB1.o.size);generalize (w1.alloc (.cells #[.slice vo (Dk.get nm D.L).dat.length vc, .int .i64 (Dk.get nm D.L).safe] 118)) = W2 at *;generalize w1.heap.size = X at *;clear HB1;have CK := Qh (Jde (HI.o.below HB2.o) HBD.o HBM.o HO.o);with_reducible refine CK.o.mono ?_
 rintro e W3 ⟨rfl, hR, hW3⟩;have HRA := Qh (Jdf ⟨rfl, hR, hW3⟩ HO.o HB2.o.size HBs.o HFB.o (fun b hb => .inl (HFT.o b hb)));have HRW := Qh (Jdg ⟨rfl, hR, hW3⟩ (Jad HB2.o) (fun b hb => .inl (HFT.o b hb)));obtain ⟨V3, sv3, hI3, hV3, hV4⟩ := hR;have HI3 := Qh hI3;have HV3 := Qh hV3;have HV4 := Qh hV4;have HW3 := Qh hW3;clear hI3 hV3 hV4 hW3 CK;have HKP := Qh (fun hq => Dk.struck_keep (D := D) hq);generalize hst : (Dk.struck D).1 = bb at *;clear hst;cases bb with
 | true =>
  go_wp2_with fail;go_ret;refine ⟨?_, ?_, HRW.o⟩
  ·rw [HE.o]; rfl
  ·rw [HE.o]; exact HRA.o
 | false =>
  have HV5 := Qh (HV4.o rfl);rw [HV5.o] at HI3;clear HV4 HV5 HV3 HRA;have HDL := Qh (HKP.o rfl).1;have HDR := Qh (HKP.o rfl).2;have HOK3 := Qh (Dk.struck_ok5 HO.o);have HFT3 := Qh (show ∀ b, Ft d mb V c (Dk.struck D).2 b → F b from fun b hb => HFT.o b (Jdu (fun _ => rfl) hb));have HSZ3 := Qh (show w.heap.size ≤ W3.heap.size from Nat.le_trans HB2.o.size HW3.o.size)
  have HX3 := Qh (HX.o.wr HW3.o (fun hq => by
   rcases hq with e | e | ⟨h1, e⟩
   ·have := HI.o.box.lt; have := HXW.o; omega
   ·have := HI.o.map.lt; have := HXW.o; omega
   ·have h2 := HI.o.set
    cases hs : D.set with
    | none => exact h1 hs
    | some p =>
     rw [hs] at h2
     have := h2.2.1.lt; have := HXW.o; omega))
  go_wp2_with fail;have CD := Qh (drop5 HI3.o.co HOK3.o.l (by rw [HDL.o]; omega) to HL2.o);with_reducible refine CD.o.mono ?_
  rintro e W4 ⟨rfl, hC, hW4⟩;have HC4 := Qh hC;have HW4 := Qh hW4
  have HX4 := Qh (HX3.o.wr hW4 (fun hq => by
   have := HI.o.box.lt; have := HI.o.map.lt; have := HXW.o
   rcases hq with e | e <;> omega))
  clear hC hW4 CD;have m2 : W4.cell? ⟨d, 2, none⟩ = some (.map (some mb)) := HC4.o.box.cell 2;have HM4 := Qh HC4.o.map;go_wp2_with (at_delete; refine wpList_delete_own _ rfl _ _ 49 9 rfl 118 law5 Tryz.underlying49 Ja8 mb _ _ rfl HM4.o _ _ rfl (key5 HL.o) ?_; intro w6 hm6 ht6; rw [Jie] at hm6; have HM6 := Qh hm6; have HT6 := Qh ht6; clear hm6 ht6)
  have HX6 := Qh (HX4.o.wr (Ja7 (A := fun q => q = mb) HT6.o rfl) (fun e => Jbs HC4.o.map HX4.o e.symm));have HB6 := Qh (HC4.o.box.wr (Ja7 (A := fun q => q = mb) HT6.o rfl) (fun e => HC4.o.ne e.symm));have HS2 := Qh (show w6.cell? ⟨d, 2, none⟩ = some (.map (some mb)) from HB6.o.cell 2);have HS0 := Qh (show w6.cell? ⟨X, 0, none⟩ = some (.slice vo (Dk.get nm D.L).dat.length vc) from HX6.o.cell 0);have HS1 := Qh (show w6.cell? ⟨X, 1, none⟩ = some (.int .i64 (Dk.get nm D.L).safe) from HX6.o.cell 1);refine Jaj (S := fun V => V.cell? ⟨d, 2, none⟩ = some (.map (some mb)) ∧ V.cell? ⟨X, 0, none⟩ = some (.slice vo (Dk.get nm D.L).dat.length vc) ∧ V.cell? ⟨X, 1, none⟩ = some (.int .i64 (Dk.get nm D.L).safe)) 6 (by kernel_rfl) ?_ (fun hQ => ?_)
  ·exact ⟨HS2.o, HS0.o, HS1.o⟩
  have HM7 := Qh HM6.o.drew;have HW7 := Qh (show Wr (fun _ => False) w6 w6.drew from (Wr.refl _ _).drew);obtain ⟨W7, hW7⟩ : ∃ x, x = World.drew w6 := ⟨_, rfl⟩
  rw [← hW7] at HM7 HW7 hQ ⊢;clear hW7 m2;have HLEN := Qh (show (Dk.del to (Dk.struck D).2.L).length ≤ 100000 from by have h1 := Dk.len_del (nm := to) HOK3.o.l.ne; have h2 := HOK3.o.few; omega);refine tkY 0 ?_;refine tkY 1 ?_;refine tkY 2 ?_;refine tkZ 3 [6] ?_;refine tkY 4 ?_;refine tkZ 5 [6] ?_;refine tqL 6 fun K hK => ?_
  refine Jcl (f := (⟨to, (Dk.get nm D.L).dat, (Dk.get nm D.L).safe⟩ : Dk.Fl)) (u := .slice vo (Dk.get nm D.L).dat.length vc) (by rfl) _ _ _ (by rfl) (by rfl) (by rfl) (by rfl) HM7.o HLEN.o HL2.o ?_;intro w8 hm8 ht8;refine hK.out _ _ ?_;clear hK K;refine wpAny_done (by kernel_rfl) ?_ _;have hm9 := hm8;simp only [HDL.o] at hm9;have HFIN := Qh (Jj3 HI3.o HOK3.o HDL.o HNE.o HVN.o HHH.o HNT.o HC4.o HW4.o HT6.o HW7.o ht8 hm9 HSZ3.o HBs.o HFB.o HFT3.o HRW.o);clear hm8 hm9 ht8 hQ;go_wp2_with fail;go_ret;refine ⟨?_, ?_, HFIN.o.2⟩
  ·rw [HE.o]; rfl
  ·rw [HE.o]; exact HFIN.o.1
theorem Jpx (h : DkAt B F d D w) (hB : B ≤ w.heap.size) (nm to : List UInt8) (hl : nm.length ≤ 140737488351232) (hl2 : to.length ≤ 140737488351232) : Calls Tryz.prog 160 #[.pointer (some ⟨d, 0, none⟩), .string (S nm), .string (S to)] w (OpR B F d (Dk.rename nm to D) w) := by
 cases hu : D.up with
 | false => exact Jiq h hB nm to hl hl2 hu
 | true =>
  cases hh : Dk.has nm D.L with
  | false => exact Jir h hB nm to hl hl2 hu hh
  | true =>
   cases hn : Dk.named to with
   | false => exact Jj4 h hB nm to hl hl2 hu hh hn
   | true =>
    by_cases e : nm = to
    ·exact Jis h hB nm to hl hl2 hu hh hn e
    ·exact Jk9 h hB nm to hl hl2 hu hh hn e
end
end
section
open Go Go.RowKit Go.Maps
def CloneN (ks : List Int) (w : World) (e : Ending) (w' : World) : Prop := ∃ ao cap, e = .returned (.slice ao ks.length cap) ∧ w'.ownsRow w.heap.size 3 1 (.slice ao ks.length cap) ks.length (ks.map (Value.int .i64)) ∧ Below w.heap.size w w'
theorem clone5 (ks : List Int) (ao : Option Addr) (cap : Nat) (hk : ks.length ≤ 1000000) (w : World) (h : NsA5 w ao ks) : Calls Tryz.prog 80 #[.slice ao ks.length cap] w (CloneN ks w) := by
 by_cases hn : ks = []
 ·subst hn
  cases ao with
  | none =>
   refine (Tryz.slices_Clone_int_nil 0 cap w).mono ?_;rintro e w' ⟨rfl, rfl⟩;exact ⟨none, 0, rfl, World.ownsRow_nil _ _ _ _, Below.refl _ _⟩
  | some a =>
   refine (Tryz.slices_Clone_int_zero a cap w).mono ?_;rintro e w' ⟨v, rfl, hr, _, hb⟩;obtain ⟨ao', ac, rfl⟩ := Jac hr;exact ⟨ao', ac, rfl, hr, hb⟩
 ·obtain ⟨g, off, rfl, hc⟩ := h hn
  refine (Tryz.slices_Clone_int g off ks.length cap ks w (Nat.le_refl _) (by omega) hc).mono ?_;rintro e w' ⟨v, rfl, hr, _, hb⟩;rw [List.take_length] at hr;obtain ⟨ao', ac, rfl⟩ := Jac hr;exact ⟨ao', ac, rfl, hr, hb⟩
section
variable {B d mb : Nat} {V : List UInt8 → Value} {sv : Value} {c : Cs} {D : Dk.St} {w : World} {F : Nat → Prop}
theorem Jj5 (h : DkAt B F d D w) (hB : B ≤ w.heap.size) (ks : List Int) (ao : Option Addr) (cap : Nat) (hu : D.up = false) : Calls Tryz.prog 27 #[.pointer (some ⟨d, 0, none⟩), .slice ao ks.length cap] w (OpR B F d (Dk.crash ks D) w) := by
 have CS := Qh (Jbt h)
 have HR := Qh (show OpR B F d (Dk.crash ks D) w (.returned (.int .i64 51)) w from by
  have e : Dk.crash ks D = (51, D) := by unfold Dk.crash; rw [if_pos hu]
  rw [e]; exact Ja0 h hB (Below.refl _ _) 51)
 have hst : stE D = 51 := by unfold stE; rw [hu]; rfl
 rw [hst] at CS;clear h hB hu hst;go_enter Tryz.func27, Tryz.ntmps27;go_wp2_with fail;with_reducible refine CS.o.mono ?_
 rintro e w1 ⟨rfl, rfl⟩;go_wp2_with fail;go_ret;exact HR.o
theorem Jmn (h : DkAt B F d D w) (hB : B ≤ w.heap.size) (ks : List Int) (ao : Option Addr) (cap : Nat) (hK : Dk.KsOk ks) (hk : NsA5 w ao ks) (hkF : ∀ a, ks ≠ [] → ao = some a → ¬ F a.block) (hu : D.up = true) : Calls Tryz.prog 27 #[.pointer (some ⟨d, 0, none⟩), .slice ao ks.length cap] w (OpR B F d (Dk.crash ks D) w) := by
 have CS := Qh (Jbt h);have HE := Qh (show Dk.crash ks D = (0, Dk.fall ks D) from by unfold Dk.crash; rw [if_neg (by rw [hu]; simp)]);have hst : stE D = 0 := by unfold stE; rw [hu]; rfl
 rw [hst] at CS;obtain ⟨hO, mb, V, sv, c, hI, hFt, hFB⟩ := h;have CF := Qh (fall5 hI.co (hFB d (hFt d (.inl rfl))).1 (hFB mb (hFt mb (.inr (.inl rfl)))).1 hO.l hO.room hO.most hO.few ks ao cap hK hk (fun a hn ha e => hkF a hn ha (e ▸ hFt d (.inl rfl))))
 have HF := Qh (show ∀ w' V', DkCo B d mb V' .nilFunc (Dk.fall ks D) w' → (∀ nm, (V' nm).ownBlock = (V nm).ownBlock) → Wr (fun q => q = d ∨ q = mb) w w' → OpR B F d (0, Dk.fall ks D) w (.returned (.int .i64 0)) w' from fun w' V' hC hV hW =>
  ⟨rfl, (hC.in (c := c) rfl).at (Dk.fall_ok5 hO ks) hW.size hB hFB (fun b hb => .inl (by
   rcases hb with e | e | ⟨f, hf, hq⟩ | ⟨hn, _⟩
   ·exact hFt _ (.inl e)
   ·exact hFt _ (.inr (.inl e))
   ·rw [hV] at hq
    obtain ⟨g, hg, kk, rfl⟩ := Dk.mem_cut hf;exact hFt _ (.inr (.inr (.inl ⟨g, hg, hq⟩)))
   ·exact absurd rfl hn)), hW.mono (fun x hx => .inl (hFt x (hx.elim .inl (fun e => .inr (.inl e)))))⟩)
 clear hO hI hFt hFB hB hu hst hK hk hkF;go_enter Tryz.func27, Tryz.ntmps27;go_wp2_with fail;with_reducible refine CS.o.mono ?_
 rintro e w1 ⟨rfl, rfl⟩;go_wp2_with fail;with_reducible refine CF.o.mono ?_
 rintro e w2 ⟨rfl, ⟨V', hC, hV⟩, hW⟩;have HR := Qh (HF.o _ _ hC hV hW);clear hC hV hW;go_wp2_with fail;go_ret;rw [HE.o];exact HR.o
theorem crash5 (h : DkAt B F d D w) (hB : B ≤ w.heap.size) (ks : List Int) (ao : Option Addr) (cap : Nat) (hK : Dk.KsOk ks) (hk : NsA5 w ao ks) (hkF : ∀ a, ks ≠ [] → ao = some a → ¬ F a.block) : Calls Tryz.prog 27 #[.pointer (some ⟨d, 0, none⟩), .slice ao ks.length cap] w (OpR B F d (Dk.crash ks D) w) := by
 cases hu : D.up with
 | false => exact Jj5 h hB ks ao cap hu
 | true => exact Jmn h hB ks ao cap hK hk hkF hu
theorem Dk.start_ok5 {D : Dk.St} (h : Dk.Ok D) (hu : D.up = false) : Dk.Ok { D with up := true, starts := D.starts + 1 } := ⟨h.l, h.few, h.room, h.most, h.n, (fun hd => by cases hd), h.k⟩
theorem start5 (h : DkAt B F d D w) (hB : B ≤ w.heap.size) (hs : D.starts ≤ 1000000000) : Calls Tryz.prog 31 #[.pointer (some ⟨d, 0, none⟩)] w (OpR B F d (Dk.start D) w) := by
 have CN := Qh (Jea h);cases hu : D.up with
 | true =>
  have HR := Qh (show OpR B F d (Dk.start D) w (.returned (.int .i64 2)) w from by
   have e : Dk.start D = (2, D) := by unfold Dk.start; rw [if_pos hu]
   rw [e]; exact Ja0 h hB (Below.refl _ _) 2)
  obtain ⟨mb, V, sv, c, hI⟩ := h.in;have c3 : w.cell? ⟨d, 3, none⟩ = some (.bool true) := by rw [hI.box.cell 3, ← hu]; rfl
  clear h hB hI hu;go_enter Tryz.func31, Tryz.ntmps31;go_wp2_with fail;with_reducible refine CN.o.mono ?_
  rintro e w1 ⟨rfl, rfl⟩;go_wp2_with fail;go_ret;exact HR.o
 | false =>
  have HE := Qh (show Dk.start D = (0, { D with up := true, starts := D.starts + 1 }) from by unfold Dk.start; rw [if_neg (by rw [hu]; simp)]);obtain ⟨hO, mb, V, sv, c, hI, hFt, hFB⟩ := h;have c3 : w.cell? ⟨d, 3, none⟩ = some (.bool false) := by rw [hI.box.cell 3, ← hu]; rfl
  have c4 : w.cell? ⟨d, 4, none⟩ = some (.int .i64 D.starts) := hI.box.cell 4;have cf : ∀ j, w.frozen? ⟨d, j, none⟩ = false := fun j => hI.box.free j
  have HF := Qh (show OpR B F d (0, { D with up := true, starts := D.starts + 1 }) w (.returned (.int .i64 0)) ((w.setCell ⟨d, 3, none⟩ (.bool true)).setCell ⟨d, 4, none⟩ (.int .i64 ((D.starts : Int) + 1))) from by
   have hw : Wr (fun q => q = d) w ((w.setCell ⟨d, 3, none⟩ (.bool true)).setCell ⟨d, 4, none⟩ (.int .i64 ((D.starts : Int) + 1))) := (Jai (A := fun q => q = d) _ _ _ rfl).trans (Jai (A := fun q => q = d) _ _ _ rfl);have hb := (hI.box.set 3 (.bool true)).set 4 (.int .i64 ((D.starts : Int) + 1));have hset : Jh0 B d sv c ((w.setCell ⟨d, 3, none⟩ (.bool true)).setCell ⟨d, 4, none⟩ (.int .i64 ((D.starts : Int) + 1))) D.set := hI.setW hw (fun q hq => .inl hq);have h1 : DkIn B d mb V sv c { D with up := true, starts := D.starts + 1 } ((w.setCell ⟨d, 3, none⟩ (.bool true)).setCell ⟨d, 4, none⟩ (.int .i64 ((D.starts : Int) + 1))) := (hI.co.boxed (D' := { D with up := true, starts := D.starts + 1 }) (sv' := sv) hw rfl (by exact hb)).in hset
   exact ⟨rfl, h1.at (Dk.start_ok5 hO hu) hw.size hB hFB (fun b hb => .inl (hFt b hb)), hw.mono (fun x hx => .inl (by rw [hx]; exact hFt _ (.inl rfl)))⟩)
  clear hO hI hFt hFB hB hu;go_enter Tryz.func31, Tryz.ntmps31;go_wp2_with fail;with_reducible refine CN.o.mono ?_
  rintro e w1 ⟨rfl, rfl⟩;go_wp2_with fail;go_ret;rw [HE.o];exact HF.o
theorem Jla (h : DkAt B F d D w) (hB : B ≤ w.heap.size) (n : Int) (ks : List Int) (ao : Option Addr) (cap : Nat) (hu : D.up = false) : Calls Tryz.prog 29 #[.pointer (some ⟨d, 0, none⟩), .int .i64 n, .slice ao ks.length cap] w (OpR B F d (Dk.fail n ks D) w) := by
 have CS := Qh (fun o o' => Jbt (h.below (Jas w o o')))
 have HR := Qh (fun w' (hb : Below w.heap.size w w') => show OpR B F d (Dk.fail n ks D) w (.returned (.int .i64 51)) w' from by
  have e : Dk.fail n ks D = (51, D) := by unfold Dk.fail; rw [if_pos hu]
  rw [e]; exact Ja0 h hB hb 51)
 have hst : stE D = 51 := by unfold stE; rw [hu]; rfl
 rw [hst] at CS;clear h hB hu hst;go_enter Tryz.func29, Tryz.ntmps29;go_wp2_with fail;with_reducible refine (CS.o _ _).mono ?_
 rintro e w1 ⟨rfl, rfl⟩;go_wp2_with fail;go_ret;exact HR.o _ (Jas _ _ _)
theorem Jmo (h : DkAt B F d D w) (hB : B ≤ w.heap.size) (n : Int) (ks : List Int) (ao : Option Addr) (cap : Nat) (hu : D.up = true) (hn : n < 0) : Calls Tryz.prog 29 #[.pointer (some ⟨d, 0, none⟩), .int .i64 n, .slice ao ks.length cap] w (OpR B F d (Dk.fail n ks D) w) := by
 have CS := Qh (fun o o' => Jbt (h.below (Jas w o o')))
 have HR := Qh (fun w' (hb : Below w.heap.size w w') => show OpR B F d (Dk.fail n ks D) w (.returned (.int .i64 2)) w' from by
  have e : Dk.fail n ks D = (2, D) := by unfold Dk.fail; rw [if_neg (by rw [hu]; simp), if_pos hn]
  rw [e]; exact Ja0 h hB hb 2)
 have hst : stE D = 0 := by unfold stE; rw [hu]; rfl
 rw [hst] at CS;have d1 : decide (n < 0) = true := by simpa using hn
 clear h hB hu hst hn;go_enter Tryz.func29, Tryz.ntmps29;go_wp2_with fail;with_reducible refine (CS.o _ _).mono ?_
 rintro e w1 ⟨rfl, rfl⟩;go_wp2_with fail;go_ret;exact HR.o _ (Jas _ _ _)
theorem Dk.fail_ok5 {D : Dk.St} (h : Dk.Ok D) (hu : D.up = true) {n : Nat} {ks : List Int} (hn : (n : Int) ≤ 9223372036854775807) (hK : Dk.KsOk ks) : Dk.Ok { D with set := some (n, ks) } :=
 ⟨h.l, h.few, h.room, h.most, (fun p hp => by cases hp; exact hn), (fun hd => by rw [show ({ D with set := some (n, ks) } : Dk.St).up = D.up from rfl, hu] at hd; cases hd), fun p hp => by cases hp; exact hK⟩
theorem Jmp (hI : DkIn B d mb V sv c D w) (hO : Dk.Ok D) (hu : D.up = true) (hB : B ≤ w.heap.size) (hFt : ∀ b, Ft d mb V c D b → F b) (hFB : ∀ b, F b → B ≤ b ∧ b < w.heap.size) {n : Nat} {ks : List Int} {ao : Option Addr} {cap : Nat} {w2 w3 : World} (hn : (n : Int) ≤ 9223372036854775807) (hK : Dk.KsOk ks)
  (hw2 : w2 = (w.alloc (.cells #[.pointer (some ⟨d, 0, none⟩)] 24)).alloc (.cells #[.int .i64 n] 3)) (hrow : w3.ownsRow w2.heap.size 3 1 (.slice ao ks.length cap) ks.length (ks.map (Value.int .i64))) (hb3 : Below w2.heap.size w2 w3) :
  OpR B F d (0, { D with set := some (n, ks) }) w (.returned (.int .i64 0)) ((w3.alloc (.cells #[.slice ao ks.length cap] 40)).setCell ⟨d, 5, none⟩ (csV ⟨w.heap.size + 1, w.heap.size, w3.heap.size, ao, cap⟩)) := by
 have hs2 : w2.heap.size = w.heap.size + 2 := by rw [hw2, sz5, sz5]
 have hb2 : Below w.heap.size w w2 := by rw [hw2]; exact Jas w _ _
 have hb4 : Below w.heap.size w (w3.alloc (.cells #[.slice ao ks.length cap] 40)) := (Jaa hb2 hb3).alloc (Jaa hb2 hb3).size _;have hdl := hI.box.lt;have hw5 : Wr (fun q => q = d) (w3.alloc (.cells #[.slice ao ks.length cap] 40)) ((w3.alloc (.cells #[.slice ao ks.length cap] 40)).setCell ⟨d, 5, none⟩ (csV ⟨w.heap.size + 1, w.heap.size, w3.heap.size, ao, cap⟩)) := Jai _ _ _ rfl;have hw : Wr (fun q => q = d) w ((w3.alloc (.cells #[.slice ao ks.length cap] 40)).setCell ⟨d, 5, none⟩ (csV ⟨w.heap.size + 1, w.heap.size, w3.heap.size, ao, cap⟩)) := (Jad hb4).step hw5 (fun x hx => .inl hx)
 have n2 : Bk #[.int .i64 n] 3 w2 (w.heap.size + 1) := by
  have := Jae #[.int .i64 n] 3 (w.alloc (.cells #[.pointer (some ⟨d, 0, none⟩)] 24));rw [sz5] at this;rw [hw2]; exact this
 have p2 : Bk #[.pointer (some ⟨d, 0, none⟩)] 24 w2 w.heap.size := by rw [hw2]; exact (Jae _ _ _).more _
 have k4 : Bk #[.slice ao ks.length cap] 40 (w3.alloc (.cells #[.slice ao ks.length cap] 40)) w3.heap.size := Jae _ _ _;have n4 := (n2.below hb3).more (.cells #[.slice ao ks.length cap] 40);have p4 := (p2.below hb3).more (.cells #[.slice ao ks.length cap] 40);have hsz3 : w.heap.size + 2 ≤ w3.heap.size := by have := hb3.size; omega
 have r4 := Jaf hrow (Qa (.cells #[.slice ao ks.length cap] 40));have hco := (hI.co.below hb4)
 have hbox := hco.box.set 5 (csV ⟨w.heap.size + 1, w.heap.size, w3.heap.size, ao, cap⟩);have h1 := hco.boxed (D' := { D with set := some (n, ks) }) (sv' := csV ⟨w.heap.size + 1, w.heap.size, w3.heap.size, ao, cap⟩) hw5 rfl (by exact hbox);have hrb : ∀ q, (Value.slice ao ks.length cap).ownBlock = some q → w.heap.size + 2 ≤ q := fun q hq => by have := (hrow.lt q hq).1; omega
 have h2 : DkIn B d mb V (csV ⟨w.heap.size + 1, w.heap.size, w3.heap.size, ao, cap⟩) ⟨w.heap.size + 1, w.heap.size, w3.heap.size, ao, cap⟩ { D with set := some (n, ks) } _ := h1.in (by
  refine ⟨rfl, n4.wr hw5 (fun e => by have e' : w.heap.size + 1 = d := e; omega), p4.wr hw5 (fun e => by have e' : w.heap.size = d := e; omega), ?_, fun _ => Jal (Jaq r4 (by omega)) hw5 (fun q hq => by have := hrb q hq; omega), fun a hn' ha => ?_⟩
  ·exact k4.wr hw5 (fun e => by have e' : w3.heap.size = d := e; omega)
  ·have := hrb a.block (by rw [show ao = some a from ha]; rfl)
   simp only; omega)
 refine ⟨rfl, h2.at (Dk.fail_ok5 hO hu hn hK) hw.size hB hFB (fun b hb => ?_), hw.mono (fun x hx => .inl (by rw [hx]; exact hFt _ (.inl rfl)))⟩;rcases hb with e | e | ⟨f, hf, hq⟩ | ⟨_, hx⟩
 ·exact .inl (hFt _ (.inl e))
 ·exact .inl (hFt _ (.inr (.inl e)))
 ·exact .inl (hFt _ (.inr (.inr (.inl ⟨f, hf, hq⟩))))
 ·refine .inr ?_
  rcases hx with e | e | e | ⟨a, p, hp, hne, ha, e⟩
  ·rw [e]; simp only; omega
  ·rw [e]; exact Nat.le_refl _
  ·rw [e]; simp only; omega
  ·have := hrb a.block (by rw [show ao = some a from ha]; rfl)
   omega
theorem Jof (h : DkAt B F d D w) (hB : B ≤ w.heap.size) (n : Nat) (ks : List Int) (ao : Option Addr) (cap : Nat) (hn : (n : Int) ≤ 9223372036854775807) (hK : Dk.KsOk ks) (hk : NsA5 w ao ks) (hu : D.up = true) : Calls Tryz.prog 29 #[.pointer (some ⟨d, 0, none⟩), .int .i64 n, .slice ao ks.length cap] w (OpR B F d (Dk.fail n ks D) w) := by
 have CS := Qh (fun o o' => Jbt (h.below (Jas w o o')));have CC := Qh (fun o o' => clone5 ks ao cap hK.len ((w.alloc o).alloc o') (hk.below (Jas w o o')));have HE := Qh (show Dk.fail n ks D = (0, { D with set := some (n, ks) }) from by unfold Dk.fail; rw [if_neg (by rw [hu]; simp), if_neg (by omega)]; rfl);have hst : stE D = 0 := by unfold stE; rw [hu]; rfl
 rw [hst] at CS;obtain ⟨hO, mb, V, sv, c, hI, hFt, hFB⟩ := h;have HA := Qh (fun ao' cap' w3 => Jmp (ao := ao') (cap := cap') (w3 := w3) hI hO hu hB hFt hFB hn hK rfl);have HX := Qh hI;have HDL := Qh hI.box.lt;have d1 : decide ((n : Int) < 0) = false := by simp
 clear hO hI hFt hFB hB hu hst hK hk;go_enter Tryz.func29, Tryz.ntmps29;go_wp2_with fail;with_reducible refine (CS.o _ _).mono ?_
 rintro e w1 ⟨rfl, rfl⟩;go_wp2_with fail;with_reducible refine (CC.o _ _).mono ?_
 rintro e w3 ⟨ao', cap', rfl, hrow, hb3⟩;have HAS := Qh (HA.o _ _ _ hrow hb3);have hX3 : Bk (dkC D mb sv) 51 w3 d := (HX.o.box.below (Jas w _ _)).below hb3;have hp3 : Bk #[.pointer (some ⟨d, 0, none⟩)] 24 w3 w.heap.size := ((Jae _ _ _).more _).below hb3;have x5 : ∀ o, (w3.alloc o).cell? ⟨d, 5, none⟩ = some sv := fun o => (hX3.more o).cell 5
 have xf : ∀ o j, (w3.alloc o).frozen? ⟨d, j, none⟩ = false := fun o j => (hX3.more o).free j
 have p0 : ∀ o, (w3.alloc o).cell? ⟨w.heap.size, 0, none⟩ = some (.pointer (some ⟨d, 0, none⟩)) := fun o => (hp3.more o).cell 0
 clear hrow hb3 hX3 hp3 HA;go_wp2_with fail;go_ret;rw [HE.o];exact HAS.o
theorem fail5 (h : DkAt B F d D w) (hB : B ≤ w.heap.size) (n : Int) (ks : List Int) (ao : Option Addr) (cap : Nat) (hn : n ≤ 9223372036854775807) (hK : Dk.KsOk ks) (hk : NsA5 w ao ks) : Calls Tryz.prog 29 #[.pointer (some ⟨d, 0, none⟩), .int .i64 n, .slice ao ks.length cap] w (OpR B F d (Dk.fail n ks D) w) := by
 cases hu : D.up with
 | false => exact Jla h hB n ks ao cap hu
 | true =>
  by_cases h0 : n < 0
  ·exact Jmo h hB n ks ao cap hu h0
  ·obtain ⟨m, rfl⟩ := Int.eq_ofNat_of_zero_le (Int.not_lt.1 h0)
   exact Jof h hB m ks ao cap hn hK hk hu
end
end
section
open Go Go.RowKit Go.Maps
def DkX (X : Nat → Prop) (B d : Nat) (D : Dk.St) (w : World) : Prop := ∃ F, DkAt B F d D w ∧ ∀ k, F k → ¬ X k
def OpX (X : Nat → Prop) (B d : Nat) (r : Int × Dk.St) (w : World) (e : Ending) (w' : World) : Prop := e = .returned (.int .i64 r.1) ∧ DkX X B d r.2 w' ∧ Wr (fun k => B ≤ k ∧ ¬ X k) w w'
section
variable {X : Nat → Prop} {B d : Nat} {D : Dk.St} {w w' : World}
theorem DkX.below (h : DkX X B d D w) (hb : Below w.heap.size w w') : DkX X B d D w' := by
 obtain ⟨F, h1, h2⟩ := h;exact ⟨F, h1.below hb, h2⟩
theorem DkX.more {X' : Nat → Prop} (h : DkX X B d D w) (hX : ∀ k, X' k → X k ∨ w.heap.size ≤ k) : DkX X' B d D w := by
 obtain ⟨F, h1, h2⟩ := h;refine ⟨F, h1, fun k hk hx => ?_⟩;rcases hX k hx with q | q
 ·exact h2 k hk q
 ·obtain ⟨_, _, _, _, _, _, _, h3⟩ := h1
  have := (h3 k hk).2;omega
theorem DkX.ok (h : DkX X B d D w) : Dk.Ok D := by obtain ⟨F, h1, _⟩ := h; exact h1.ok
theorem DkX.wr {A : Nat → Prop} (h : DkX X B d D w) (hw : Wr A w w') (hA : ∀ k, A k → X k) : DkX X B d D w' := by
 obtain ⟨F, h1, h2⟩ := h;exact ⟨F, h1.wr hw (fun b hb ha => h2 b hb (hA b ha)), h2⟩
theorem Jdm {F : Nat → Prop} {r : Int × Dk.St} {e : Ending} (h : DkAt B F d D w) (hF : ∀ k, F k → ¬ X k) (hX : ∀ k, X k → k < w.heap.size) (hR : OpR B F d r w e w') : OpX X B d r w e w' := by
 obtain ⟨h1, h2, h3⟩ := hR;obtain ⟨_, _, _, _, _, _, _, h4⟩ := h;refine ⟨h1, ⟨_, h2, fun k hk hx => ?_⟩, h3.mono (fun k hk => .inl ⟨(h4 k hk).1, hF k hk⟩)⟩;rcases hk with q | q
 ·exact hF k q hx
 ·have := hX k hx; omega
theorem Jgi (h : DkX X B d D w) (hX : ∀ k, X k → k < w.heap.size) (hB : B ≤ w.heap.size) (nm s : List UInt8) (hl : nm.length ≤ 140737488351232) (hs : s.length ≤ 140737488351232) : Calls Tryz.prog 123 #[.pointer (some ⟨d, 0, none⟩), .string (S nm), .string (S s)] w (OpX X B d (Dk.append nm s D) w) := by
 obtain ⟨F, h1, h2⟩ := h;exact (Jpv h1 hB nm s hl hs).mono fun e w' hr => Jdm h1 h2 hX hr
theorem syncX (h : DkX X B d D w) (hX : ∀ k, X k → k < w.heap.size) (hB : B ≤ w.heap.size) (nm : List UInt8) (hl : nm.length ≤ 140737488351232) : Calls Tryz.prog 125 #[.pointer (some ⟨d, 0, none⟩), .string (S nm)] w (OpX X B d (Dk.sync nm D) w) := by
 obtain ⟨F, h1, h2⟩ := h;exact (sync5 h1 hB nm hl).mono fun e w' hr => Jdm h1 h2 hX hr
theorem Jkm (h : DkX X B d D w) (hX : ∀ k, X k → k < w.heap.size) (hB : B ≤ w.heap.size) (nm : List UInt8) (hl : nm.length ≤ 140737488351232) : Calls Tryz.prog 75 #[.pointer (some ⟨d, 0, none⟩), .string (S nm)] w (OpX X B d (Dk.remove nm D) w) := by
 obtain ⟨F, h1, h2⟩ := h;exact (Jpw h1 hB nm hl).mono fun e w' hr => Jdm h1 h2 hX hr
theorem Jpy (h : DkX X B d D w) (hX : ∀ k, X k → k < w.heap.size) (hB : B ≤ w.heap.size) (nm to : List UInt8) (hl : nm.length ≤ 140737488351232) (hl2 : to.length ≤ 140737488351232) : Calls Tryz.prog 160 #[.pointer (some ⟨d, 0, none⟩), .string (S nm), .string (S to)] w (OpX X B d (Dk.rename nm to D) w) := by
 obtain ⟨F, h1, h2⟩ := h;exact (Jpx h1 hB nm to hl hl2).mono fun e w' hr => Jdm h1 h2 hX hr
theorem crashX (h : DkX X B d D w) (hX : ∀ k, X k → k < w.heap.size) (hB : B ≤ w.heap.size) (ks : List Int) (ao : Option Addr) (cap : Nat) (hK : Dk.KsOk ks) (hk : NsA5 w ao ks) (hkX : ∀ a, ks ≠ [] → ao = some a → X a.block ∨ a.block < B) : Calls Tryz.prog 27 #[.pointer (some ⟨d, 0, none⟩), .slice ao ks.length cap] w (OpX X B d (Dk.crash ks D) w) := by
 obtain ⟨F, h1, h2⟩ := h;have h4 := h1.2;obtain ⟨_, _, _, _, _, _, h3⟩ := h4;refine (crash5 h1 hB ks ao cap hK hk (fun a hn ha hf => ?_)).mono fun e w' hr => Jdm h1 h2 hX hr
 rcases hkX a hn ha with q | q
 ·exact h2 _ hf q
 ·have := (h3 _ hf).1; omega
theorem failX (h : DkX X B d D w) (hX : ∀ k, X k → k < w.heap.size) (hB : B ≤ w.heap.size) (n : Int) (ks : List Int) (ao : Option Addr) (cap : Nat) (hn : n ≤ 9223372036854775807) (hK : Dk.KsOk ks) (hk : NsA5 w ao ks) : Calls Tryz.prog 29 #[.pointer (some ⟨d, 0, none⟩), .int .i64 n, .slice ao ks.length cap] w (OpX X B d (Dk.fail n ks D) w) := by
 obtain ⟨F, h1, h2⟩ := h;exact (fail5 h1 hB n ks ao cap hn hK hk).mono fun e w' hr => Jdm h1 h2 hX hr
theorem startX (h : DkX X B d D w) (hX : ∀ k, X k → k < w.heap.size) (hB : B ≤ w.heap.size) (hs : D.starts ≤ 1000000000) : Calls Tryz.prog 31 #[.pointer (some ⟨d, 0, none⟩)] w (OpX X B d (Dk.start D) w) := by
 obtain ⟨F, h1, h2⟩ := h;exact (start5 h1 hB hs).mono fun e w' hr => Jdm h1 h2 hX hr
theorem Jf2 (h : DkX X B d D w) (nm : List UInt8) (hl : nm.length ≤ 140737488351232) : Calls Tryz.prog 107 #[.pointer (some ⟨d, 0, none⟩), .string (S nm)] w fun e w' => e = .returned (.tuple #[.string (S (Dk.read nm D).2), .int .i64 (Dk.read nm D).1]) ∧ Below w.heap.size w w' := by
 obtain ⟨F, h1, _⟩ := h; exact read5 h1 nm hl
theorem Jkn (h : DkX X B d D w) (nm : List UInt8) (hl : nm.length ≤ 140737488351232) : Calls Tryz.prog 77 #[.pointer (some ⟨d, 0, none⟩), .string (S nm)] w fun e w' => e = .returned (.int .i64 (Dk.get nm D.L).safe) ∧ w = w' := by
 obtain ⟨F, h1, _⟩ := h; exact Jpt h1 nm hl
theorem Jd1 (h : DkX X B d D w) : Calls Tryz.prog 36 #[.pointer (some ⟨d, 0, none⟩)] w (RowT (Dk.names D.L) w) := by obtain ⟨F, h1, _⟩ := h; exact Jii h1
theorem Jmq (h : DkX X B d D w) : Calls Tryz.prog 37 #[.pointer (some ⟨d, 0, none⟩)] w (RowN (Dk.unsynced D.L) w) := by obtain ⟨F, h1, _⟩ := h; exact Jmi h1
theorem upX (h : DkX X B d D w) : Calls Tryz.prog 30 #[.pointer (some ⟨d, 0, none⟩)] w fun e w' => e = .returned (.bool D.up) ∧ w = w' := by obtain ⟨F, h1, _⟩ := h; exact up5 h1
theorem Jgj (h : DkX X B d D w) : Calls Tryz.prog 106 #[.pointer (some ⟨d, 0, none⟩)] w fun e w' => e = .returned (.int .i64 D.starts) ∧ w = w' := by obtain ⟨F, h1, _⟩ := h; exact Jps h1
theorem sizeX (h : DkX X B d D w) : Calls Tryz.prog 38 #[.pointer (some ⟨d, 0, none⟩)] w fun e w' => e = .returned (.int .i64 (Dk.size D.L)) ∧ w = w' := by obtain ⟨F, h1, _⟩ := h; exact size5 h1
def Jmr (n : Nat) (w : World) (e : Ending) (w' : World) : Prop := ∃ d, e = .returned (.tuple #[.pointer (some ⟨d, 0, none⟩), .int .i64 0]) ∧ DkX (fun _ => False) w.heap.size d (Dk.new n) w' ∧ Below w.heap.size w w' ∧ w.heap.size ≤ d
theorem Jms (n : Nat) (w : World) (h1 : 1 ≤ n) (h2 : n ≤ 1048576) : Calls Tryz.prog 11 #[.int .i64 n] w (Jmr n w) :=
 (Job n w h1 h2).mono fun e w' ⟨d, he, hk, hb⟩ => ⟨d, he, ⟨_, hk, fun _ _ q => q⟩, hb, by
  obtain ⟨_, mb, V, sv, c, _, h3, h4⟩ := hk
  exact (h4 d (h3 d (.inl rfl))).1⟩
end
structure Ra where
 kind : Int
 name : List UInt8
 other : List UInt8
 data : List UInt8
 n : Int
 keep : List Int
 o : Option Addr
 k : Nat
section
variable {X : Nat → Prop} {B d : Nat} {D : Dk.St} {w w' : World}
end
end
section
open Go Go.RowKit Go.Maps
def TsA5 (w : World) (ao : Option Addr) (l : List (List UInt8)) : Prop := l ≠ [] → ∃ g off, ao = some ⟨g, off, none⟩ ∧ ∀ j, j < l.length → w.cell? ⟨g, off + j, none⟩ = some (.string (S (l.getD j [])))
theorem TsA5.wr {w w' : World} {ao : Option Addr} {l : List (List UInt8)} {A : Nat → Prop} (h : TsA5 w ao l) (hw : Wr A w w') (hA : ∀ a, l ≠ [] → ao = some a → ¬ A a.block) : TsA5 w' ao l := fun hn => by
 obtain ⟨g, off, e, hc⟩ := h hn;refine ⟨g, off, e, fun j hj => ?_⟩;have h1 := hc j hj;rw [← h1];exact World.cell?_of_block (a := ⟨g, off + j, none⟩) (hw.block g (Jaz h1) (hA _ hn e))
theorem TsA5.below {w w' : World} {ao : Option Addr} {l : List (List UInt8)} (h : TsA5 w ao l) (hb : Below w.heap.size w w') : TsA5 w' ao l := h.wr (A := fun _ => False) (Jad hb) (fun _ _ _ q => q)
theorem Jb6 {w : World} {B : Nat} {ao : Option Addr} {cap : Nat} {l : List (List UInt8)} (h : w.ownsRow B 9 1 (.slice ao l.length cap) l.length (txs5 l)) : TsA5 w ao l := fun hn => by
 have hl : 0 < l.length := List.length_pos_iff.2 hn;obtain ⟨g, e, _, _, _⟩ := Jck h hl;refine ⟨g, 0, e, fun j hj => ?_⟩;obtain ⟨g', e', _, _, hc⟩ := Jck h hj;rw [e] at e';injection e' with e'
 injection e' with e'
 subst e';rw [Nat.zero_add, hc];simp [txs5, List.getD, hj]
def Jgk {α : Type} (z : α) (a b : List α) (k : Nat) : Prop := ∀ j, j < k → a.getD j z = b.getD j z
theorem Jhb {α : Type} {z : α} {a b : List α} (hl : a.length = b.length) (h : Jgk z a b a.length) : a = b := by
 refine List.ext_getElem hl fun j h1 h2 => ?_
 have := h j h1;simpa [List.getD, List.getElem?_eq_getElem h1, List.getElem?_eq_getElem h2] using this
theorem Jit (a b : List Int) (ha : a.length ≤ 1000000) (hl : a.length = b.length) (ao bo : Option Addr) (ca cb : Nat) (w : World) (ra : NsA5 w ao a) (rb : NsA5 w bo b) :
  Calls Tryz.prog 40 #[.slice ao a.length ca, .slice bo a.length cb] w fun e w' => e = .returned (.bool (decide (a = b))) ∧ Below w.heap.size w w' := by
 have HL := Qh hl;by_cases hz : a = []
 ·have hb0 : b = [] := List.length_eq_zero_iff.1 (by rw [← hl, hz]; rfl)
  have hd : decide (a = b) = true := by simp [hz, hb0]
  rw [hd];clear ra rb hl HL;have hz0 : a.length = 0 := by rw [hz]; rfl
  rw [hz0];go_enter Tryz.func40, Tryz.ntmps40;go_wp2_with fail;refine wp_loop_rounds 1 ?_;rw [rounds_succ];go_wp2_with fail;go_ret;exact ⟨rfl, Below.refl _ _⟩
 ·have hzb : b ≠ [] := fun e => hz (List.length_eq_zero_iff.1 (by rw [hl, e]; rfl))
  have RA := Qh ra;have RB := Qh rb;obtain ⟨ga, oa, rfl, _⟩ := ra hz;obtain ⟨gb, ob, rfl, _⟩ := rb hzb;have HZ := Qh hz;have HZB := Qh hzb;clear ra rb hl hz hzb;go_enter Tryz.func40, Tryz.ntmps40;go_wp2_with fail;go_loopw [5] (fun i wr => ∃ k : Nat, k ≤ a.length ∧ i = .int .i64 k ∧ Jgk 0 a b k ∧ Below w.heap.size w wr) (fun i _ => a.length - (intOf i).toNat)
  case atStart => exact ⟨0, by omega, rfl, fun j hj => by omega, Below.refl _ _⟩
  case round =>
   obtain ⟨k, hk, rfl, hst, hb⟩ := hrel;by_cases hka : k < a.length
   ·obtain ⟨_, _, e1, xa'⟩ := (RA.o.below hb) HZ.o
    obtain ⟨_, _, e2, xb'⟩ := (RB.o.below hb) HZB.o;injection e1 with e1; injection e1 with e1 e1'; subst e1 e1'
    injection e2 with e2; injection e2 with e2 e2'; subst e2 e2'
    have xa := xa' k hka;have xb := xb' k (by have := HL.o; omega);have HS := Qh hst;clear hst xa' xb';by_cases he : a.getD k 0 = b.getD k 0
    ·rw [← he] at xb
     have HE := Qh he;clear he;generalize hu : a.getD k 0 = u at *;have HU := Qh hu;clear hu;go_wp2_with fail;go_quiet (fail)
     go_wp2_with fail;go_roundw
     case rel => exact ⟨k + 1, by omega, by go_num, fun j hj => by
      by_cases e : j = k
      ·subst e; rw [HU.o]; exact HE.o
      ·exact HS.o j (by omega), below_drewN hb _⟩
     case measure => simp [intOf]; omega
    ·have hd : decide (a = b) = false := by simp; intro e; exact he (by rw [e])
     have HD := Qh hd;clear hd;generalize a.getD k 0 = u at *;generalize b.getD k 0 = v at *;have huv : (u == v) = false := by simpa using he
     have huw : (u != v) = true := by simpa using he
     go_wp2_with fail;go_quiet (fail)
     go_wp2_with fail;go_ret;exact ⟨ret_bool HD.o.symm, below_drewN hb _⟩
   ·obtain rfl : k = a.length := by omega
    have hd : decide (a = b) = true := by simp; exact Jhb HL.o hst
    have HD := Qh hd;clear hd;go_wp2_with fail;go_ret;exact ⟨ret_bool HD.o.symm, hb⟩
theorem Jhs (a b : List Int) (ha : a.length ≤ 1000000) (hb : b.length ≤ 1000000) (ao bo : Option Addr) (ca cb : Nat) (w : World) (ra : NsA5 w ao a) (rb : NsA5 w bo b) :
  Calls Tryz.prog 40 #[.slice ao a.length ca, .slice bo b.length cb] w fun e w' => e = .returned (.bool (decide (a = b))) ∧ Below w.heap.size w w' := by
 by_cases hl : a.length = b.length
 ·have := Jit a b ha hl ao bo ca cb w ra rb
  rw [← hl];exact this
 ·have hd : decide (a = b) = false := by simp; intro e; exact hl (by rw [e])
  rw [hd];have d1 : ((a.length : Int) != (b.length : Int)) = true := by simp; omega
  have d2 : ((a.length : Int) == (b.length : Int)) = false := by simp; omega
  have d3 : (a.length != b.length) = true := by simpa using hl
  have d4 : (a.length == b.length) = false := by simpa using hl
  clear hl ra rb hd;go_enter Tryz.func40, Tryz.ntmps40;go_wp2_with fail;go_ret;exact ⟨rfl, Below.refl _ _⟩
theorem Jht (a b : List (List UInt8)) (ha : a.length ≤ 1000000) (hl : a.length = b.length) (ao bo : Option Addr) (ca cb : Nat) (w : World) (ra : TsA5 w ao a) (rb : TsA5 w bo b) :
  Calls Tryz.prog 39 #[.slice ao a.length ca, .slice bo a.length cb] w fun e w' => e = .returned (.bool (decide (a = b))) ∧ Below w.heap.size w w' := by
 have HL := Qh hl;by_cases hz : a = []
 ·have hb0 : b = [] := List.length_eq_zero_iff.1 (by rw [← hl, hz]; rfl)
  have hd : decide (a = b) = true := by simp [hz, hb0]
  rw [hd];clear ra rb hl HL;have hz0 : a.length = 0 := by rw [hz]; rfl
  rw [hz0];go_enter Tryz.func39, Tryz.ntmps39;go_wp2_with fail;refine wp_loop_rounds 1 ?_;rw [rounds_succ];go_wp2_with fail;go_ret;exact ⟨rfl, Below.refl _ _⟩
 ·have hzb : b ≠ [] := fun e => hz (List.length_eq_zero_iff.1 (by rw [hl, e]; rfl))
  have RA := Qh ra;have RB := Qh rb;obtain ⟨ga, oa, rfl, _⟩ := ra hz;obtain ⟨gb, ob, rfl, _⟩ := rb hzb;have HZ := Qh hz;have HZB := Qh hzb;clear ra rb hl hz hzb;go_enter Tryz.func39, Tryz.ntmps39;go_wp2_with fail;go_loopw [5] (fun i wr => ∃ k : Nat, k ≤ a.length ∧ i = .int .i64 k ∧ Jgk [] a b k ∧ Below w.heap.size w wr) (fun i _ => a.length - (intOf i).toNat)
  case atStart => exact ⟨0, by omega, rfl, fun j hj => by omega, Below.refl _ _⟩
  case round =>
   obtain ⟨k, hk, rfl, hst, hb⟩ := hrel;by_cases hka : k < a.length
   ·obtain ⟨_, _, e1, xa'⟩ := (RA.o.below hb) HZ.o
    obtain ⟨_, _, e2, xb'⟩ := (RB.o.below hb) HZB.o;injection e1 with e1; injection e1 with e1 e1'; subst e1 e1'
    injection e2 with e2; injection e2 with e2 e2'; subst e2 e2'
    have xa := xa' k hka;have xb := xb' k (by have := HL.o; omega);have HS := Qh hst;clear hst xa' xb';by_cases he : a.getD k [] = b.getD k []
    ·rw [← he] at xb
     have HE := Qh he;clear he;generalize hu : a.getD k [] = u at *;have HU := Qh hu;clear hu;go_wp2_with fail;go_quiet (fail)
     go_wp2_with fail;go_roundw
     case rel => exact ⟨k + 1, by omega, by go_num, fun j hj => by
      by_cases e : j = k
      ·subst e; rw [HU.o]; exact HE.o
      ·exact HS.o j (by omega), below_drewN hb _⟩
     case measure => simp [intOf]; omega
    ·have hd : decide (a = b) = false := by simp; intro e; exact he (by rw [e])
     have HD := Qh hd;clear hd;generalize a.getD k [] = u at *;generalize b.getD k [] = v at *;have huv : (u == v) = false := by simpa using he
     go_wp2_with fail;go_quiet (fail)
     go_wp2_with fail;go_ret;exact ⟨ret_bool HD.o.symm, below_drewN hb _⟩
   ·obtain rfl : k = a.length := by omega
    have hd : decide (a = b) = true := by simp; exact Jhb HL.o hst
    have HD := Qh hd;clear hd;go_wp2_with fail;go_ret;exact ⟨ret_bool HD.o.symm, hb⟩
theorem Jcc (a b : List (List UInt8)) (ha : a.length ≤ 1000000) (hb : b.length ≤ 1000000) (ao bo : Option Addr) (ca cb : Nat) (w : World) (ra : TsA5 w ao a) (rb : TsA5 w bo b) :
  Calls Tryz.prog 39 #[.slice ao a.length ca, .slice bo b.length cb] w fun e w' => e = .returned (.bool (decide (a = b))) ∧ Below w.heap.size w w' := by
 by_cases hl : a.length = b.length
 ·have := Jht a b ha hl ao bo ca cb w ra rb
  rw [← hl];exact this
 ·have hd : decide (a = b) = false := by simp; intro e; exact hl (by rw [e])
  rw [hd];have d1 : ((a.length : Int) != (b.length : Int)) = true := by simp; omega
  have d2 : ((a.length : Int) == (b.length : Int)) = false := by simp; omega
  have d3 : (a.length != b.length) = true := by simpa using hl
  have d4 : (a.length == b.length) = false := by simpa using hl
  clear hl ra rb hd;go_enter Tryz.func39, Tryz.ntmps39;go_wp2_with fail;go_ret;exact ⟨rfl, Below.refl _ _⟩
end
end Go.Proofs.YtmammmjmipgmoaaGreatDoor
