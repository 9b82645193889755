import Derived.Test.YtmammmjmipgmoaaGreatDoorZM
import Derived.Test.YtmammmjmipgmoaaGreatDoorZI
import Derived.Test.YtmammmjmipgmoaaGreatDoorZC
import Derived.Test.YtmammmjmipgmoaaGreatDoorZD
import Derived.Test.YtmammmjmipgmoaaGreatDoorZQh
set_option linter.unusedVariables false
set_option maxRecDepth 100000
set_option maxHeartbeats 16000000
namespace Go.Proofs.YtmammmjmipgmoaaGreatDoor
section
open Go Go.RowKit Go.Maps
namespace Hl
def lay (G : Lg) (f : List UInt8) (D : Dk.St) : Int × Dk.St × Lg := ((Dk.append (nm (lastS G).n) f D).1, (Dk.append (nm (lastS G).n) f D).2, if (Dk.append (nm (lastS G).n) f D).1 = 0 then G.put1 f.length else G.hold (Dk.append (nm (lastS G).n) f D).1)
end Hl
section
variable {X Y : Nat → Prop} {B b d : Nat} {G G' : Hl.Lg} {D : Dk.St} {vs : Value} {P : List (Hl.Sm × Value)} {w w' w1 : World}
open Hl
def layV (b2 bl bf : Nat) : Value := .func (Fn.func 124) #[] #[.pointer (some ⟨bl, 0, none⟩), .pointer (some ⟨b2, 0, none⟩), .pointer (some ⟨bf, 0, none⟩)]
def Jc3 (p : Addr) (bl bf : Nat) (w : World) : World := (w.alloc (.cells #[.pointer (some p)] 102)).alloc (.cells #[layV w.heap.size bl bf] 58)
theorem Jfg (p : Addr) (bl bf : Nat) (w : World) : Below w.heap.size w (Jc3 p bl bf w) ∧ Bk #[.pointer (some p)] 102 (Jc3 p bl bf w) w.heap.size ∧ Bk #[layV w.heap.size bl bf] 58 (Jc3 p bl bf w) (w.heap.size + 1) ∧ (Jc3 p bl bf w).heap.size = w.heap.size + 2 := by
 unfold Jc3;refine ⟨Jas w _ _, (Jae _ _ _).more _, ?_, by simp only [sz5]⟩;have := Jae #[layV w.heap.size bl bf] 58 (w.alloc (.cells #[.pointer (some p)] 102));rw [sz5] at this;exact this
theorem Jp4 (hL : LgIn B b d G vs P w) (h : DkX (fun k => X k ∨ LgF b vs P k) B d D w) (hX : ∀ k, X k → k < w.heap.size) (hB : B ≤ w.heap.size) (hv : Vr w) (hN : ∀ k, LgF b vs P k → ¬ X k) (h3 : 3 ≤ B) {m g o : Nat} {u : Value} (hg : LgF b vs P g)
  (c5 : w.cell? ⟨g, o, none⟩ = some (.int .i64 ((lastS G).n : Nat))) (c6 : w.cell? ⟨g, o + 1, none⟩ = some u) {bl bf : Nat} (yl : X bl) (yf : X bf) (f : List UInt8) (c1 : w.cell? ⟨bl, 0, none⟩ = some (.pointer (some ⟨b, 0, none⟩))) (c3 : w.cell? ⟨bf, 0, none⟩ = some (.string (S f))) (hf : f.length ≤ 100000) (hn : (lastS G).n ≤ 1000) :
  Calls Tryz.prog 61 #[.pointer (some ⟨b, 0, none⟩), .slice (some ⟨w.heap.size + 1, 0, none⟩) 1 1] (Jc3 ⟨g, o, none⟩ bl bf w) (RwL6 (fun k => (X k ∨ LgF b vs P k) ∨ (w.heap.size ≤ k ∧ k < w.heap.size + 2)) B b d G vs P (Dk.append (nm (lastS G).n) f D) (Jc3 ⟨g, o, none⟩ bl bf w)) := by
 obtain ⟨hb, hk1, hk2, hsz⟩ := Jfg ⟨g, o, none⟩ bl bf w;obtain ⟨n1, n2⟩ := Je8 h hL hX hb;generalize Jc3 ⟨g, o, none⟩ bl bf w = w1 at *;rw [hsz] at n1;have n2' : ∀ k, ((X k ∨ LgF b vs P k) ∨ (w.heap.size ≤ k ∧ k < w.heap.size + 2)) → k < w1.heap.size := fun k hk => n2 k (by rw [hsz]; exact hk)
 have key := Jed (X := fun k => (X k ∨ LgF b vs P k) ∨ (w.heap.size ≤ k ∧ k < w.heap.size + 2)) [(124, #[], #[.pointer (some ⟨bl, 0, none⟩), .pointer (some ⟨w.heap.size, 0, none⟩), .pointer (some ⟨bf, 0, none⟩)])] (w.heap.size + 1) 1 [Dk.append (nm (lastS G).n) f] rfl (by simp) (hL.below hb) n1 n2' (Nat.le_trans hB hb.size) (hv.below hb) (fun k hk => .inl (.inr hk)) h3 (.inr ⟨by omega, by omega⟩)
  (fun j hj => by
   match j, hj with
   | 0, _ => exact hk2.cell 0)
  (fun i hi => by
   match i, hi with
   | 0, _ => exact Jav (fn := Tryz.f124) (by kernel_rfl) (by kernel_rfl) rfl)
  (fun i hi hi' D' w' hd hl hv' hw => by
   have kc : ∀ {a : Addr} {x : Value}, w.cell? a = some x → (X a.block ∨ LgF b vs P a.block) → w'.cell? a = some x := fun hc hx => Jam (Jab hc hb) hw (fun q => q.2 (.inl hx))
   match i, hi, hi' with
   | 0, _, _ => exact lay1_6 hd (fun k hk => Nat.lt_of_lt_of_le (n2' k hk) hw.size) (Nat.le_trans hB (Nat.le_trans hb.size hw.size)) hv' (.inl (.inl yl)) (.inr ⟨Nat.le_refl _, by omega⟩) (.inl (.inl yf)) (.inl (.inr (.inl rfl))) (.inl (.inr hg)) (lastS G) u f (kc c1 (.inl yl)) ((hk1.wr hw (fun q => q.2 (.inr ⟨Nat.le_refl _, by omega⟩))).cell 0) (kc c3 (.inl yf)) hl.cell0 (kc c5 (.inr hg)) (kc c6 (.inr hg)) hn hf)
 rw [Jcd] at key;exact key
theorem Jor (h : HgX X B b d D G w) (hX : ∀ k, X k → k < w.heap.size) (hB : B ≤ w.heap.size) (hn : G.S ≠ []) (f : List UInt8) (hf : f.length ≤ 100) (hfin : (lastS G).fin < 900) :
  Calls Tryz.prog 71 #[.pointer (some ⟨b, 0, none⟩), .string (S f)] w (HgO X B b d (Hl.lay G f D) w) := by
 obtain ⟨vs, P, hL, hD, hN, hv, h3⟩ := h;have hlen := hL.len;have hfew := hL.ok.few;obtain ⟨m, hm⟩ : ∃ m, P.length = m + 1 := ⟨P.length - 1, by have := List.length_pos_iff.2 hn; omega⟩
 obtain ⟨g, o, cap, v, rfl, q1, q2, q3, q4, q5, q6⟩ := hL.lastc hm;have hsn : (lastS G).n ≤ 1000 := by unfold Sm.fin at hfin; omega
 have CL := Qh (fun W (k : Below w.heap.size w W) => Jch (G := G) (hL.box.below k) (by omega) q1)
 have CR := Qh (fun (W : World) (k : Below w.heap.size w W) (l2 : w.heap.size + 1 < W.heap.size) (c1 : W.cell? ⟨w.heap.size, 0, none⟩ = some (.pointer (some ⟨b, 0, none⟩))) (c3 : W.cell? ⟨w.heap.size + 1, 0, none⟩ = some (.string (S f))) =>
  Jp4 (X := fun k => X k ∨ (w.heap.size ≤ k ∧ k < W.heap.size)) (hL.below k) ((hD.more (fun k hk => by rcases hk with (q | q) | q; exact .inl (.inl q); exact .inr q.1; exact .inl (.inr q))).below k) (fun x hx => by rcases hx with q | q; exact Nat.lt_of_lt_of_le (hX x q) k.size; exact q.2) (Nat.le_trans hB k.size) (hv.below k) (fun x hx q => by
   rcases q with q | q
   ·exact hN x hx q
   ·have := (hL.lt x hx).2; omega) h3 (m := m) (g := g) (o := o + m * 2) (u := v) q6 (Jab q3 k) (Jab q4 k) (bl := w.heap.size) (bf := w.heap.size + 1) (.inr ⟨Nat.le_refl _, by omega⟩) (.inr ⟨by omega, l2⟩) f c1 c3 (by omega) hsn)
 have HL := Qh hL;have HD := Qh hD;have HN := Qh hN;have HX0 := Qh hX;have HB0 := Qh hB;have H3 := Qh h3;have HP5 := Qh q5;have HG6 := Qh q6;have HFIN := Qh hfin;have HNE := Qh hn;have hmm : m ≤ 1000 := by omega
 have HM := Qh hm;clear hL hD hN hX hB h3 q1 q2 q3 q4 q5 q6 hn hv hlen hfew hfin hm hsn;unfold Hl.lay;generalize hr : Dk.append (nm (lastS G).n) f D = r at *;clear hr;obtain ⟨Gr, hGr⟩ : ∃ x, x = (if r.1 = 0 then G.put1 f.length else G.hold r.1) := ⟨_, rfl⟩
 have HGR := Qh hGr;rw [← hGr];clear hGr;go_enter Tryz.func71, Tryz.ntmps71;go_wp2_with fail;with_reducible refine (CL.o _ (Jas w _ _)).mono ?_
 rintro e w1 ⟨rfl, hb⟩;have c1 : w1.cell? ⟨w.heap.size, 0, none⟩ = some (.pointer (some ⟨b, 0, none⟩)) := (((Jae #[.pointer (some ⟨b, 0, none⟩)] 33 w).more (.cells #[.string (S f)] 9)).below hb).cell 0
 have c3 : w1.cell? ⟨w.heap.size + 1, 0, none⟩ = some (.string (S f)) := by
  have := Jae #[.string (S f)] 9 (w.alloc (.cells #[.pointer (some ⟨b, 0, none⟩)] 33));rw [sz5] at this;exact (this.below hb).cell 0
 have l2 : w.heap.size + 1 < w1.heap.size := by have := hb.size; simp only [sz5] at this; omega
 have l1 : w.heap.size < w1.heap.size := by omega
 have HB1 := Qh (Jaa (Jas w _ _) hb);have CR1 := Qh (CR.o w1 HB1.o l2 c1 c3);unfold Jc3 layV at CR1;clear hb CL CR;go_wp2_with fail;with_reducible refine CR1.o.mono ?_
 rintro e w5 ⟨rfl, o2, o3, o4, o5⟩;have HLF := Jfg ⟨g, o + m * 2, none⟩ w.heap.size (w.heap.size + 1) w1;unfold Jc3 layV at HLF;obtain ⟨e1, e2, e3, e4⟩ := HLF;have hbne : w1.heap.size ≠ b := by have := HL.o.box.lt; omega
 have hfne : w.heap.size + 1 ≠ b := by have := HL.o.box.lt; omega
 have F1 := Qh (show w5.cell? ⟨w1.heap.size, 0, none⟩ = some (.pointer (some ⟨g, o + m * 2, none⟩)) from Jam (e2.cell 0) o5 (fun q => by rcases q with q | q; exact hbne q; exact q.2 (.inr ⟨Nat.le_refl _, by show w1.heap.size < w1.heap.size + 2; omega⟩)));have F2 := Qh (show w5.cell? ⟨w.heap.size + 1, 0, none⟩ = some (.string (S f)) from Jam (Jab c3 e1) o5 (fun q => by rcases q with q | q; exact hfne q; exact q.2 (.inl (.inl (.inr ⟨by show w.heap.size ≤ w.heap.size + 1; omega, l2⟩)))));have HBE := Qh (Jaa HB1.o e1);have HO2 := Qh o2;have HO3 := Qh o3;have HO4 := Qh o4;have HO5 := Qh o5;generalize World.alloc (World.alloc w1 _) _ = w4 at HBE HO5;clear o2 o3 o4 o5 e1 e2 e3 e4 CR1 c1 c3
 have HWR := Qh (show Wr (fun k => B ≤ k ∧ ¬ X k) w w5 from (Jad HBE.o).step HO5.o (fun x hx => by
  rcases hx with rfl | ⟨z1, z2⟩
  ·exact .inl ⟨HL.o.bB, HN.o _ (.inl rfl)⟩
  ·exact .inl ⟨z1, fun q => z2 (.inl (.inl (.inl q)))⟩))
 by_cases hr : r.1 = 0
 ·rw [hr, hold_zero] at HO2
  replace HGR := Qh (show Gr = G.put1 f.length from by rw [HGR.o, if_pos hr]);obtain ⟨g', o', cap', v', hvv, k1, k2, k3, k4, k5, k6⟩ := HO2.o.lastc HM.o;simp only [Value.slice.injEq, Option.some.injEq, Addr.mk.injEq, true_and, and_true] at hvv;obtain ⟨⟨rfl, rfl⟩, rfl⟩ := hvv;obtain ⟨p1, p2⟩ := snoc_of HM.o k5;have hrow : w5.ownsRow B 3 1 v' (lastS G).es.length (nats (lastS G).es) := HO2.o.ends (lastS G, v') (List.mem_of_getElem? k5);obtain ⟨ao, ca, rfl⟩ := Jac hrow;have F3 := Qh k3;have F4 := Qh k4;have HR := Qh hrow;have hok := Jdo HO2.o.ok HNE.o;have hz := size_le hok.2;have hL9 : (lastS G).es.length ≤ 900 := by have := hok.1; unfold Sm.fin at this; omega
  have CZ := Qh (fun W (k : Below w5.heap.size w5 W) => Jey (lastS G) (.slice ao (lastS G).es.length ca) B W (Jaf hrow k) (by omega))
  have NE1 := Qh (show some w1.heap.size ≠ (Value.slice ao (lastS G).es.length ca).ownBlock from fun e => by
   have h1 := HL.o.lt w1.heap.size (.inr (.inr ⟨_, List.mem_of_getElem? k5, e.symm⟩));have h2 := HB1.o.size
   omega)
  have NE2 := Qh (show some (w.heap.size + 1) ≠ (Value.slice ao (lastS G).es.length ca).ownBlock from fun e => by
   have h1 := HL.o.lt (w.heap.size + 1) (.inr (.inr ⟨_, List.mem_of_getElem? k5, e.symm⟩))
   omega)
  have NE3 := Qh (show some g ≠ (Value.slice ao (lastS G).es.length ca).ownBlock from fun e => Jct (Jak hrow) HO2.o.row (by decide) g e.symm rfl)
  have FZ := Qh (show ∀ (wa wb : World), Below w5.heap.size w5 wa → wa.grownBy wb (Value.slice ao (lastS G).es.length ca).ownBlock → wb.frozen? ⟨g, o + m * 2 + 1, none⟩ = false from fun wa wb ha hb => by
   obtain ⟨g9, o9, cap9, hv9, _, _, _, hz9, _, hl9⟩ := HO2.o.row.shape (by rw [HM.o]; omega);simp only [Value.slice.injEq, Option.some.injEq, Addr.mk.injEq, and_true] at hv9;obtain ⟨⟨rfl, rfl⟩, -⟩ := hv9;rw [World.frozen?_of_block (a := ⟨g, o + m * 2 + 1, none⟩) (hb.block g (Nat.lt_of_lt_of_le hl9 ha.size) NE3.o)];rw [World.frozen?_of_block (a := ⟨g, o + m * 2 + 1, none⟩) (ha.block g hl9)]
   exact hz9 _)
  have HPP := Qh p1;have HPL := Qh p2;have HB5 := Qh (show B ≤ w5.heap.size from Nat.le_trans HB0.o HWR.o.size);obtain ⟨i0, hi0, hz0, hz1, hz2⟩ := info_parts Jcw;have HFO := Qh hok.1;clear k1 k2 k3 k4 k5 k6 p1 p2 hrow hok;have HZ := Qh (show (lastS G).size + f.length = (lastS G).size + f.length from rfl);generalize hzz : (lastS G).size = Z at *;generalize hsn : (lastS G).n = sn at *;generalize hes : (lastS G).es.length = L at *;generalize hnv : nats (lastS G).es = NV at *;generalize hq : o + m * 2 = q at *;generalize hbg : w1.heap.size = bg at *;generalize hbf : w.heap.size + 1 = bf at *;go_wp2_with fail;refine Jaj (S := fun V => V.cell? ⟨bg, 0, none⟩ = some (.pointer (some ⟨g, q, none⟩)) ∧ V.cell? ⟨bf, 0, none⟩ = some (.string (S f)) ∧ V.cell? ⟨g, q, none⟩ = some (.int .i64 (sn : Nat)) ∧ V.cell? ⟨g, q + 1, none⟩ = some (.slice ao L ca)) 16 (by kernel_rfl) ?_ (fun hQ => ?_)
  ·exact ⟨Jab F1.o (Below.refl _ _).drew, Jab F2.o (Below.refl _ _).drew, Jab F3.o (Below.refl _ _).drew, Jab F4.o (Below.refl _ _).drew⟩
  have HX := Qh (Below.refl w5.heap.size w5).drew;obtain ⟨wd, hwd⟩ : ∃ x, x = World.drew w5 := ⟨_, rfl⟩
  rw [← hwd] at HX hQ ⊢;clear hwd;refine tkZ 0 [14, 15, 16] ?_;refine tkZ 1 [2, 3, 4, 13, 14, 15, 16] ?_;refine tkY 2 ?_;refine tkY 3 ?_;refine tkZ 4 [13, 14, 15, 16] ?_;refine tkZ 5 [6, 7, 8, 11, 12, 13, 14, 15, 16] ?_;refine tkY 6 ?_;refine tkZ 7 [8, 11, 12, 13, 14, 15, 16] ?_;refine tkZ 9 [10, 11, 12, 13, 14, 15, 16] ?_;refine tkY 10 ?_;refine tqZ 8 fun K hK => ?_
  go_simp;go_at_call 115;with_reducible refine (CZ.o _ HX.o).mono ?_
  rintro e w8 ⟨rfl, hb8⟩;replace HX := Qh (Jaa HX.o hb8);clear hb8;refine hK.out _ _ ?_ (fun hQ => ?_)
  ·exact ⟨Jab F1.o HX.o, Jab F2.o HX.o, Jab F3.o HX.o, Jab F4.o HX.o⟩
  clear hK K;refine tkY 11 ?_;refine tqZ 12 fun K hK => ?_
  go_simp;rw [show IntKind.i64.wrap ((Z : Int) + (f.length : Int)) = (Z : Int) + (f.length : Int) from IntWalk.i64_in _ (by omega)];have HY := Qh (Jae #[.int .i64 ((Z : Int) + (f.length : Int))] 3 w8);replace HX := Qh (HX.o.alloc HX.o.size (.cells #[.int .i64 ((Z : Int) + (f.length : Int))] 3));have HQ := Qh (show w8.heap.size = w8.heap.size from rfl);generalize hq12 : w8.heap.size = q12 at *;generalize hw12 : w8.alloc (.cells #[.int .i64 ((Z : Int) + (f.length : Int))] 3) = w12 at *;clear hq12 hw12 HQ;refine hK.out _ _ ?_ (fun hQ => ?_)
  ·exact ⟨Jab F1.o HX.o, Jab F2.o HX.o, Jab F3.o HX.o, Jab F4.o HX.o⟩
  clear hK K;refine tqZ 13 fun K hK => ?_
  refine Jag (by rfl) _ _ 40 (by rfl) B 3 i0 (.int .i64 0) 1 8 Tryz.underlying40 hi0 hz0 hz1 hz2 rfl (by decide) (.slice ao L ca) L NV (by rfl) (Jaf HR.o HX.o) ⟨q12, 0, none⟩ 1 1 [.int .i64 ((Z : Int) + (f.length : Int))] (by rfl) rfl (fun j u hu => by rw [Addr.add_lit, Nat.zero_add, HY.o.cell]; simpa using hu) (fun u hu => by rw [List.mem_singleton.1 hu]; rfl) (by unfold maxLen; omega) (by omega) (Nat.le_trans HB5.o HX.o.size) ?_;intro v13 w13 ho13 hg13 ha13;obtain ⟨a13, c13, rfl⟩ := Jac ho13;have HO := Qh ho13;have HG := Qh hg13;have HA := Qh ha13;have x1 : w13.cell? ⟨bg, 0, none⟩ = some (.pointer (some ⟨g, q, none⟩)) := hg13.cell (Jab F1.o HX.o) NE1.o;have x2 : w13.cell? ⟨bf, 0, none⟩ = some (.string (S f)) := hg13.cell (Jab F2.o HX.o) NE2.o;have x3 : w13.cell? ⟨g, q, none⟩ = some (.int .i64 (sn : Nat)) := hg13.cell (Jab F3.o HX.o) NE3.o;have x4 : w13.cell? ⟨g, q + 1, none⟩ = some (.slice ao L ca) := hg13.cell (Jab F4.o HX.o) NE3.o;clear ho13 hg13 ha13 HY;refine hK.out _ _ ?_ (fun hQ => ?_)
  ·exact ⟨x1, x2, x3, x4⟩
  clear hK K;refine tkY 14 ?_;refine tkY 15 ?_;refine tqL 16 fun K hK => ?_
  have f9 : w13.frozen? ⟨g, q + 1, none⟩ = false := FZ.o w12 w13 HX.o HG.o;have m9 := x4;go_simp;refine hK.out _ _ ?_;clear hK K;refine wpAny_done (by kernel_rfl) ?_ _;clear hQ x1 x2 x3 x4 m9 f9 CZ F1 F2 F3 F4 HR;subst hzz hsn hes hnv hq
  have HV := Qh (fun z hz => show (Value.slice ao (lastS G).es.length ca).ownBlock = some z ∨ w12.heap.size ≤ z from by
   rcases HA.o with h | h
   ·exact .inl (by rw [← h]; exact hz)
   ·rw [hz] at h; simp only [Option.some.injEq] at h; exact .inr (by omega))
  have HW13 := Qh (Jby (A := fun z => (Value.slice ao (lastS G).es.length ca).ownBlock = some z) HG.o (fun z hz => .inl hz));have HK := Qh (LgIn.put1 (P0 := P.dropLast) (s := lastS G) (v := .slice ao (lastS G).es.length ca) (w := w12) (w1 := w13) (k := f.length) (by rw [← HPP.o]; exact HO2.o.below HX.o) HPL.o hf HFIN.o (by have := HO.o; rw [Int.natCast_add]; exact this) HW13.o HV.o);have HPF := Qh (fun z hz => put1_F (b := b) (vs := .slice (some ⟨g, o, none⟩) (m + 1) cap) (P0 := P.dropLast) (s := lastS G) (s' := ⟨(lastS G).n, (lastS G).es ++ [(lastS G).size + f.length]⟩) HV.o z hz);rw [← HPP.o] at HPF;have HSET := Qh (Jai (A := fun z => z = g) w13 ⟨g, o + m * 2 + 1, none⟩ (.slice a13 ((lastS G).es.length + 1) c13) rfl);have HVL := Qh (show ∀ z, (Value.slice ao (lastS G).es.length ca).ownBlock = some z → LgF b (.slice (some ⟨g, o, none⟩) (m + 1) cap) P z from fun z hz => .inr (.inr ⟨(lastS G, .slice ao (lastS G).es.length ca), by rw [HPP.o]; simp, hz⟩));have HGL := Qh (show LgF b (.slice (some ⟨g, o, none⟩) (m + 1) cap) P g from .inr (.inl rfl))
  have HD16 := Qh ((((HO3.o.below HX.o).more (X' := fun k => (X k ∨ LgF b (.slice (some ⟨g, o, none⟩) (m + 1) cap) P k) ∨ (Value.slice a13 ((lastS G).es.length + 1) c13).ownBlock = some k) (fun k hk => by
   rcases hk with (q | q) | q
   ·exact .inl (.inl (.inl (.inl q)))
   ·exact .inl (.inl (.inr q))
   ·rcases HV.o k q with h | h
    ·exact .inl (.inl (.inr (HVL.o k h)))
    ·exact .inr h)).wr HW13.o (fun k hk => .inl (.inr (HVL.o k hk)))).wr HSET.o (fun k hk => .inl (.inr (by rw [hk]; exact HGL.o))))
  have HW16 := Qh ((((HWR.o.trans (Jad HX.o)).step HW13.o (fun x hx => .inl ⟨(HL.o.lt x (HVL.o x hx)).1, HN.o x (HVL.o x hx)⟩)).step HSET.o (fun x hx => .inl (by rw [hx]; exact ⟨(HL.o.lt g HGL.o).1, HN.o g HGL.o⟩))));have HV16 := Qh (((HO4.o.below HX.o).wr HW13.o (fun k hk q => by have := (HL.o.lt k (HVL.o k q)).1; have := H3.o; omega)).wr HSET.o (fun k hk q => by have := (HL.o.lt g HGL.o).1; have := H3.o; omega))
  have HF := Qh (show HgO X B b d (r.1, r.2, Gr) w (.returned (.int .i64 0)) (w13.setCell ⟨g, o + m * 2 + 1, none⟩ (.slice a13 ((lastS G).es.length + 1) c13)) from by
   rw [HGR.o];refine ⟨by rw [hr], ⟨_, _, HK.o, HD16.o.less (fun k hk => ?_), fun k hk => ?_, HV16.o, H3.o⟩, HW16.o⟩
   ·rcases hk with q | q
    ·exact .inl (.inl q)
    ·rcases HPF.o k q with h | h
     ·exact .inl (.inr h)
     ·exact .inr h.1
   ·rcases HPF.o k hk with h | h
    ·exact HN.o k h
    ·exact fun hx => by
      have h1 := HX0.o k hx;have h2 := HX.o.size;have h3 := HWR.o.size
      omega)
  go_wp2_with fail;go_ret;exact HF.o
 ·have dr : (r.1 == 0) = false := by simpa using hr
  have HF := Qh (show HgO X B b d (r.1, r.2, Gr) w (.returned (.int .i64 r.1)) w5 from
   by rw [HGR.o, if_neg hr]; exact ⟨rfl, ⟨_, _, HO2.o, HO3.o.less (fun k hk => by rcases hk with q | q; exact .inl (.inl (.inl q)); exact .inl (.inr q)), HN.o, HO4.o, H3.o⟩, HWR.o⟩)
  go_wp2_with fail;go_ret;exact HF.o
end
end
section
open Go Go.RowKit Go.Maps
namespace Hl
def endN (G : Lg) : Nat := if G.S = [] then 0 else (lastS G).fin
def endL (D : Dk.St) (G : Lg) : Nat := if state D G = 0 then endN G else 0
def firstL (D : Dk.St) (G : Lg) : Nat := if state D G = 0 then (G.S.head?.getD ⟨0, []⟩).n else 0
def segmentsL (D : Dk.St) (G : Lg) : Nat := if state D G = 0 then G.S.length else 0
end Hl
section
variable {X Y : Nat → Prop} {B b d : Nat} {G : Hl.Lg} {D : Dk.St} {vs : Value} {P : List (Hl.Sm × Value)} {w w' w1 : World}
open Hl
theorem Jgs (n L cap : Nat) (ao : Option Addr) (hn : n ≤ 1000000000) (hl : L ≤ 1000000) (w : World) :
  Calls Tryz.prog 56 #[.agg #[.int .i64 (n : Nat), .slice ao L cap]] w fun e w' => e = .returned (.int .i64 ((n : Int) + (L : Int))) ∧ Below w.heap.size w w' := by
 go_enter Tryz.func56, Tryz.ntmps56;go_wp2_with fail;go_ret;exact ⟨rfl, Qa _⟩
theorem Jfq (h : HgX X B b d D G w) : Calls Tryz.prog 25 #[.pointer (some ⟨b, 0, none⟩)] w fun e w' => e = .returned (.int .i64 (endL D G : Nat)) ∧ Below w.heap.size w w' := by
 have CS := Qh (Jay h);by_cases hs : Hl.state D G = 0
 ·obtain ⟨vs, P, hL, hD, hN, hv, h3⟩ := h
  have he : endL D G = endN G := if_pos hs;rw [he];rw [hs] at CS;by_cases h0 : G.S = []
  ·have hz : endN G = 0 := if_pos h0
   rw [hz];have hp : P.length = 0 := by rw [hL.len, h0]; rfl
   obtain ⟨ao, cap, rfl, _⟩ := hL.row.val;have C3 := Qh hL.cell3;rw [hp] at C3;clear hL hD hN hv h3 hs he h0 hz hp;go_enter Tryz.func25, Tryz.ntmps25;go_wp2_with fail;with_reducible refine CS.o.mono ?_
   rintro e w1 ⟨rfl, hb⟩;have c3 := Jab C3.o hb;have HB := Qh hb;clear hb CS;go_wp2_with fail;go_ret;exact ⟨rfl, HB.o⟩
  ·have hz : endN G = (lastS G).fin := if_neg h0
   rw [hz];obtain ⟨m, hm⟩ : ∃ m, P.length = m + 1 := ⟨P.length - 1, by have := hL.len; have := List.length_pos_iff.2 h0; omega⟩
   obtain ⟨g, o, cap, v, rfl, q1, q2, q3, q4, q5, q6⟩ := hL.lastc hm;have hrow : w.ownsRow B 3 1 v (lastS G).es.length (nats (lastS G).es) := hL.ends (lastS G, v) (List.mem_of_getElem? q5);obtain ⟨ao, ca, rfl⟩ := Jac hrow;have hlo := (Jdo hL.ok h0).1;have hmm : m ≤ 1000 := by have := hL.ok.few; have := hL.len; omega
   have hfn : ((lastS G).fin : Int) = ((lastS G).n : Int) + ((lastS G).es.length : Int) := by unfold Sm.fin; omega
   unfold Sm.fin at hlo;rw [hfn];have CL := Qh (fun W (k : Below w.heap.size w W) => Jch (G := G) (hL.box.below k) (by omega) q1);have CE := Qh (fun W => Jgs (lastS G).n (lastS G).es.length ca ao (by omega) (by omega) W);have C3 := Qh hL.cell3;have C5 := Qh q3;have C6 := Qh q4;clear hL hD hN hv h3 hs he h0 hz hm q1 q2 q3 q4 q5 q6 hrow hlo hfn;generalize (lastS G).n = sn at *;generalize (lastS G).es.length = L at *;have hne : ((m : Int) + 1 == 0) = false := by simp; omega
   go_enter Tryz.func25, Tryz.ntmps25;go_wp2_with fail;with_reducible refine CS.o.mono ?_
   rintro e w1 ⟨rfl, hb⟩;have c3 := Jab C3.o hb;have HB := Qh hb;clear hb CS;go_wp2_with fail;with_reducible refine (CL.o _ HB.o).mono ?_
   rintro e w2 ⟨rfl, hb2⟩;replace HB := Qh (Jaa HB.o hb2);have c5 := Jab C5.o HB.o;have c6 := Jab C6.o HB.o;clear hb2 c3 CL;go_wp2_with fail;with_reducible refine (CE.o _).mono ?_
   rintro e w3 ⟨rfl, hb3⟩;replace HB := Qh (Jaa HB.o hb3);clear hb3 CE;go_wp2_with fail;go_ret;exact ⟨rfl, HB.o⟩
 ·have he : endL D G = 0 := if_neg hs
  rw [he];clear h he;generalize Hl.state D G = z at *;have dz : (z != 0) = true := by simpa using hs
  go_enter Tryz.func25, Tryz.ntmps25;go_wp2_with fail;with_reducible refine CS.o.mono ?_
  rintro e w1 ⟨rfl, hb⟩;have HB := Qh hb;clear hb CS;go_wp2_with fail;go_ret;exact ⟨rfl, HB.o⟩
theorem Jhw (h : HgX X B b d D G w) : Calls Tryz.prog 26 #[.pointer (some ⟨b, 0, none⟩)] w fun e w' => e = .returned (.int .i64 (segmentsL D G : Nat)) ∧ Below w.heap.size w w' := by
 have CS := Qh (Jay h);by_cases hs : Hl.state D G = 0
 ·obtain ⟨vs, P, hL, hD, hN, hv, h3⟩ := h
  have he : segmentsL D G = P.length := by rw [hL.len]; exact if_pos hs
  rw [he];rw [hs] at CS;obtain ⟨ao, cap, rfl, _⟩ := hL.row.val;have C3 := Qh hL.cell3;clear hL hD hN hv h3 hs he;generalize P.length = n at *;go_enter Tryz.func26, Tryz.ntmps26;go_wp2_with fail;with_reducible refine CS.o.mono ?_
  rintro e w1 ⟨rfl, hb⟩;have c3 := Jab C3.o hb;have HB := Qh hb;clear hb CS;go_wp2_with fail;go_ret;exact ⟨rfl, HB.o⟩
 ·have he : segmentsL D G = 0 := if_neg hs
  rw [he];clear h he;generalize Hl.state D G = z at *;have dz : (z != 0) = true := by simpa using hs
  go_enter Tryz.func26, Tryz.ntmps26;go_wp2_with fail;with_reducible refine CS.o.mono ?_
  rintro e w1 ⟨rfl, hb⟩;have HB := Qh hb;clear hb CS;go_wp2_with fail;go_ret;exact ⟨rfl, HB.o⟩
theorem Jdb (h : HgX X B b d D G w) : Calls Tryz.prog 23 #[.pointer (some ⟨b, 0, none⟩)] w fun e w' => e = .returned (.int .i64 (firstL D G : Nat)) ∧ Below w.heap.size w w' := by
 have CS := Qh (Jay h);by_cases hs : Hl.state D G = 0
 ·obtain ⟨vs, P, hL, hD, hN, hv, h3⟩ := h
  have he : firstL D G = (G.S.head?.getD ⟨0, []⟩).n := if_pos hs;rw [he];rw [hs] at CS;cases P with
  | nil =>
   have hg : G.S = [] := by rw [← hL.seg]; rfl
   rw [hg];obtain ⟨ao, cap, rfl, _⟩ := hL.row.val;have C3 := Qh hL.cell3;clear hL hD hN hv h3 hs he hg;go_enter Tryz.func23, Tryz.ntmps23;go_wp2_with fail;with_reducible refine CS.o.mono ?_
   rintro e w1 ⟨rfl, hb⟩;have c3 := Jab C3.o hb;have HB := Qh hb;clear hb CS;go_wp2_with fail;go_ret;exact ⟨rfl, HB.o⟩
  | cons p r =>
   have hg : G.S.head? = some p.1 := by rw [← hL.seg]; rfl
   rw [hg];obtain ⟨g, o, cap, rfl, q1, q2, q3, q4, q5, q6⟩ := hL.row.shape (by simp);have C3 := Qh hL.cell3;have C5 := Qh (show w.cell? ⟨g, o, none⟩ = some (.int .i64 (p.1.n : Nat)) from q3 0 (by simp));have hfew : r.length + 1 ≤ 1000 := by have := hL.ok.few; have := hL.len; simp at this; omega
   clear hL hD hN hv h3 hs he q1 q2 q3 q4 q5 q6 hg;simp only [List.length_cons] at C3;simp only [Option.getD_some];generalize r.length = n at *;generalize p.1.n = pn at *;have hne : ((n : Int) + 1 == 0) = false := by simp; omega
   go_enter Tryz.func23, Tryz.ntmps23;go_wp2_with fail;with_reducible refine CS.o.mono ?_
   rintro e w1 ⟨rfl, hb⟩;have c3 := Jab C3.o hb;have c5 := Jab C5.o hb;have HB := Qh hb;clear hb CS;go_wp2_with fail;go_ret;exact ⟨rfl, HB.o⟩
 ·have he : firstL D G = 0 := if_neg hs
  rw [he];clear h he;generalize Hl.state D G = z at *;have dz : (z != 0) = true := by simpa using hs
  go_enter Tryz.func23, Tryz.ntmps23;go_wp2_with fail;with_reducible refine CS.o.mono ?_
  rintro e w1 ⟨rfl, hb⟩;have HB := Qh hb;clear hb CS;go_wp2_with fail;go_ret;exact ⟨rfl, HB.o⟩
end
end
section
open Go Go.RowKit Go.Maps
namespace Hl
def begin6 (G : Lg) (f : List UInt8) (es : List Nat) (D : Dk.St) : Int × Dk.St × Lg := ((Dk.run [syncL G, Dk.append (nm (endN G)) f] D).1, (Dk.run [syncL G, Dk.append (nm (endN G)) f] D).2, if (Dk.run [syncL G, Dk.append (nm (endN G)) f] D).1 = 0 then G.push ⟨endN G, es⟩ else G.hold (Dk.run [syncL G, Dk.append (nm (endN G)) f] D).1)
end Hl
section
variable {X Y : Nat → Prop} {B b d : Nat} {G G' : Hl.Lg} {D : Dk.St} {vs : Value} {P : List (Hl.Sm × Value)} {w w' w1 : World}
open Hl
theorem Ji5 : (Tryz.prog.info? 88).map (fun i => (i.zero, i.size, i.bytes)) = some (some (.agg #[.int .i64 0, .slice none 0 0]), 2, 32) := by kernel_rfl
def synV (b : Nat) : Value := .func (Fn.func 72) #[.pointer (some ⟨b, 0, none⟩)] #[]
def begV (b2 bl bf : Nat) : Value := .func (Fn.func 122) #[] #[.pointer (some ⟨bl, 0, none⟩), .pointer (some ⟨b2, 0, none⟩), .pointer (some ⟨bf, 0, none⟩)]
def Jc4 (b n : Nat) (u : Value) (bl bf : Nat) (w : World) : World := (w.alloc (.cells #[.int .i64 (n : Nat), u] 88)).alloc (.cells #[synV b, begV w.heap.size bl bf] 58)
theorem Jfh (b n : Nat) (u : Value) (bl bf : Nat) (w : World) : Below w.heap.size w (Jc4 b n u bl bf w) ∧ Bk #[.int .i64 (n : Nat), u] 88 (Jc4 b n u bl bf w) w.heap.size ∧ Bk #[synV b, begV w.heap.size bl bf] 58 (Jc4 b n u bl bf w) (w.heap.size + 1) ∧ (Jc4 b n u bl bf w).heap.size = w.heap.size + 2 := by
 unfold Jc4;refine ⟨Jas w _ _, (Jae _ _ _).more _, ?_, by simp only [sz5]⟩;have := Jae #[synV b, begV w.heap.size bl bf] 58 (w.alloc (.cells #[.int .i64 (n : Nat), u] 88));rw [sz5] at this;exact this
theorem Jp5 (hL : LgIn B b d G vs P w) (h : DkX (fun k => X k ∨ LgF b vs P k) B d D w) (hX : ∀ k, X k → k < w.heap.size) (hB : B ≤ w.heap.size) (hv : Vr w) (hN : ∀ k, LgF b vs P k → ¬ X k) (h3 : 3 ≤ B) {n : Nat} {u : Value}
  {bl bf : Nat} (yl : X bl) (yf : X bf) (f : List UInt8) (c1 : w.cell? ⟨bl, 0, none⟩ = some (.pointer (some ⟨b, 0, none⟩))) (c3 : w.cell? ⟨bf, 0, none⟩ = some (.string (S f))) (hf : f.length ≤ 100000) (hn : n ≤ 1000) :
  Calls Tryz.prog 61 #[.pointer (some ⟨b, 0, none⟩), .slice (some ⟨w.heap.size + 1, 0, none⟩) 2 2] (Jc4 b n u bl bf w) (RwL6 (fun k => (X k ∨ LgF b vs P k) ∨ (w.heap.size ≤ k ∧ k < w.heap.size + 2)) B b d G vs P (Dk.run [syncL G, Dk.append (nm n) f] D) (Jc4 b n u bl bf w)) := by
 obtain ⟨hb, hk1, hk2, hsz⟩ := Jfh b n u bl bf w;obtain ⟨n1, n2⟩ := Je8 h hL hX hb;generalize Jc4 b n u bl bf w = w1 at *;rw [hsz] at n1;have n2' : ∀ k, ((X k ∨ LgF b vs P k) ∨ (w.heap.size ≤ k ∧ k < w.heap.size + 2)) → k < w1.heap.size := fun k hk => n2 k (by rw [hsz]; exact hk)
 exact Jed (X := fun k => (X k ∨ LgF b vs P k) ∨ (w.heap.size ≤ k ∧ k < w.heap.size + 2)) [(72, #[.pointer (some ⟨b, 0, none⟩)], #[]), (122, #[], #[.pointer (some ⟨bl, 0, none⟩), .pointer (some ⟨w.heap.size, 0, none⟩), .pointer (some ⟨bf, 0, none⟩)])] (w.heap.size + 1) 2 [syncL G, Dk.append (nm n) f] rfl (by simp) (hL.below hb) n1 n2' (Nat.le_trans hB hb.size) (hv.below hb) (fun k hk => .inl (.inr hk)) h3 (.inr ⟨by omega, by omega⟩)
  (fun j hj => by
   match j, hj with
   | 0, _ => exact hk2.cell 0
   | 1, _ => exact hk2.cell 1)
  (fun i hi => by
   match i, hi with
   | 0, _ => exact Jav (fn := Tryz.f72) (by kernel_rfl) (by kernel_rfl) rfl
   | 1, _ => exact Jav (fn := Tryz.f122) (by kernel_rfl) (by kernel_rfl) rfl)
  (fun i hi hi' D' w' hd hl hv' hw => by
   have kc : ∀ {a : Addr} {x : Value}, w.cell? a = some x → (X a.block ∨ LgF b vs P a.block) → w'.cell? a = some x := fun hc hx => Jam (Jab hc hb) hw (fun q => q.2 (.inl hx))
   have kb := hk1.wr hw (fun q => q.2 (.inr ⟨Nat.le_refl _, by omega⟩));match i, hi, hi' with
   | 0, _, _ => exact Jhe hl hd (fun k hk => Nat.lt_of_lt_of_le (n2' k hk) hw.size) (Nat.le_trans hB (Nat.le_trans hb.size hw.size)) hv' (fun k hk => .inl (.inr hk))
   | 1, _, _ => exact Jop hd (fun k hk => Nat.lt_of_lt_of_le (n2' k hk) hw.size) (Nat.le_trans hB (Nat.le_trans hb.size hw.size)) hv' (.inl (.inl yl)) (.inr ⟨Nat.le_refl _, by omega⟩) (.inl (.inl yf)) (.inl (.inr (.inl rfl))) ⟨n, []⟩ u f (kc c1 (.inl yl)) (kb.cell 0) (kc c3 (.inl yf)) hl.cell0 (kb.cell 1) hn hf)
theorem Jf4 {ve : Value} {es : List Nat} (h : HgX (fun k => X k ∨ ve.ownBlock = some k) B b d D G w) (hX : ∀ k, X k → k < w.heap.size) (hB : B ≤ w.heap.size) (hst : Hl.state D G = 0) (f : List UInt8) (hf : f.length ≤ 100000) (hen : endN G ≤ 890) (hfew : G.S.length < 1000)
  (he : w.ownsRow B 3 1 ve es.length (nats es)) (hes : es.length ≤ 1 ∧ ∀ e ∈ es, e ≤ 100 * es.length) (hvX : ∀ q, ve.ownBlock = some q → ¬ X q) :
  Calls Tryz.prog 70 #[.pointer (some ⟨b, 0, none⟩), .string (S f), ve] w (HgO X B b d (Hl.begin6 G f es D) w) := by
 have hh := h;obtain ⟨vs, P, hL, hD, hN, hv, h3⟩ := h;have hlen := hL.len;obtain ⟨ae, ce, rfl⟩ := Jac he;obtain ⟨ao, ca, rfl, -, -⟩ := hL.row.val;have CE := Qh (fun W (k : Below w.heap.size w W) => Jfq (hh.below k));rw [show endL D G = endN G from if_pos hst] at CE;have hvlt := (Jak he).lt
 have CR := Qh (fun (W : World) (k : Below w.heap.size w W) (l2 : w.heap.size + 1 < W.heap.size) (c1 : W.cell? ⟨w.heap.size, 0, none⟩ = some (.pointer (some ⟨b, 0, none⟩))) (c3 : W.cell? ⟨w.heap.size + 1, 0, none⟩ = some (.string (S f))) =>
  Jp5 (X := fun k => (X k ∨ (Value.slice ae es.length ce).ownBlock = some k) ∨ (w.heap.size ≤ k ∧ k < W.heap.size)) (hL.below k) ((hD.more (fun k hk => by rcases hk with (q | q) | q; exact .inl (.inl q); exact .inr q.1; exact .inl (.inr q))).below k) (fun x hx => by rcases hx with (q | q) | q; exact Nat.lt_of_lt_of_le (hX x q) k.size; exact Nat.lt_of_lt_of_le (hvlt x q).2 k.size; exact q.2) (Nat.le_trans hB k.size) (hv.below k) (fun x hx q => by
   rcases q with q | q
   ·exact hN x hx q
   ·have := (hL.lt x hx).2; omega) h3 (n := endN G) (u := .slice ae es.length ce) (bl := w.heap.size) (bf := w.heap.size + 1) (.inr ⟨Nat.le_refl _, by omega⟩) (.inr ⟨by omega, l2⟩) f c1 c3 hf (by omega))
 have HL := Qh hL;have HN := Qh (fun k hk => (fun hx => hN k hk (.inl hx) : ¬ X k));have HNV := Qh (fun k hk => (fun hx => hN k hk (.inr hx) : (Value.slice ae es.length ce).ownBlock ≠ some k));have HX0 := Qh hX;have HB0 := Qh hB;have H3 := Qh h3;have HE := Qh he;have HES := Qh hes;have HVX := Qh hvX;have HVL := Qh hvlt;have HFEW := Qh hfew;have HEN := Qh hen;have hM : P.length ≤ 1000 := by omega
 have hE1 := hes.1;clear hh hL hD hN hX hB h3 he hv hlen hes hvX hvlt hst;unfold Hl.begin6;generalize hr : Dk.run [syncL G, Dk.append (nm (endN G)) f] D = r at *;clear hr;obtain ⟨Gr, hGr⟩ : ∃ x, x = (if r.1 = 0 then G.push ⟨endN G, es⟩ else G.hold r.1) := ⟨_, rfl⟩
 have HGR := Qh hGr;rw [← hGr];clear hGr;go_enter Tryz.func70, Tryz.ntmps70;go_wp2_with fail;with_reducible refine (CE.o _ (Jas w _ _)).mono ?_
 rintro e w1 ⟨rfl, hb⟩;have c1 : w1.cell? ⟨w.heap.size, 0, none⟩ = some (.pointer (some ⟨b, 0, none⟩)) := (((Jae #[.pointer (some ⟨b, 0, none⟩)] 33 w).more (.cells #[.string (S f)] 9)).below hb).cell 0
 have c3 : w1.cell? ⟨w.heap.size + 1, 0, none⟩ = some (.string (S f)) := by
  have := Jae #[.string (S f)] 9 (w.alloc (.cells #[.pointer (some ⟨b, 0, none⟩)] 33));rw [sz5] at this;exact (this.below hb).cell 0
 have l2 : w.heap.size + 1 < w1.heap.size := by have := hb.size; simp only [sz5] at this; omega
 have l1 : w.heap.size < w1.heap.size := by omega
 have HB1 := Qh (Jaa (Jas w _ _) hb);have CR1 := Qh (CR.o w1 HB1.o l2 c1 c3);have d9 : decide ((999999999 : Int) < (endN G : Int)) = false := by simp; omega
 have d9' : decide ((999999999 : Nat) < endN G) = false := by simp; omega
 unfold Jc4 synV begV at CR1;clear hb CE CR;generalize hnn : endN G = n at *;go_wp2_with fail;with_reducible refine CR1.o.mono ?_
 rintro e w5 ⟨rfl, o2, o3, o4, o5⟩;have HLF := Jfh b n (.slice ae es.length ce) w.heap.size (w.heap.size + 1) w1;unfold Jc4 synV begV at HLF;obtain ⟨e1, e2, e3, e4⟩ := HLF;have hbne : w1.heap.size ≠ b := by have := HL.o.box.lt; omega
 have hlne : w.heap.size ≠ b := by have := HL.o.box.lt; omega
 have hbk := e2.wr o5 (fun q => by rcases q with q | q; exact hbne q; exact q.2 (.inr ⟨Nat.le_refl _, by omega⟩));have F1 := Qh (show w5.cell? ⟨w.heap.size, 0, none⟩ = some (.pointer (some ⟨b, 0, none⟩)) from Jam (Jab c1 e1) o5 (fun q => by rcases q with q | q; exact hlne q; exact q.2 (.inl (.inl (.inr ⟨by show w.heap.size ≤ w.heap.size; omega, l1⟩)))));have F2 := Qh (show w5.cell? ⟨w1.heap.size, 0, none⟩ = some (.int .i64 (n : Nat)) from hbk.cell 0);have F3 := Qh (show w5.cell? ⟨w1.heap.size, 1, none⟩ = some (.slice ae es.length ce) from hbk.cell 1);have F4 := Qh o2.cell3;have HR := Qh o2.row;have HBE := Qh (Jaa HB1.o e1);have HO2 := Qh o2;have HO3 := Qh o3;have HO4 := Qh o4;have HO5 := Qh o5;have hbb : ∀ q, (Value.slice ae es.length ce).ownBlock = some q → q ≠ b := (Jak HE.o).ne HL.o.box (by decide);have HE5 := Qh (show w5.ownsRow B 3 1 (.slice ae es.length ce) es.length (nats es) from Jal (Jaf HE.o HBE.o) o5 (fun q hq hh => by rcases hh with hh | hh; exact hbb q hq hh; exact hh.2 (.inl (.inl (.inl (.inr hq))))))
 have HWR := Qh (show Wr (fun k => B ≤ k ∧ ¬ X k) w w5 from (Jad HBE.o).step HO5.o (fun x hx => by
  rcases hx with rfl | ⟨z1, z2⟩
  ·exact .inl ⟨HL.o.bB, HN.o _ (.inl rfl)⟩
  ·exact .inl ⟨z1, fun q => z2 (.inl (.inl (.inl (.inl q))))⟩))
 have NE4 := Qh (show ¬ (Value.slice ao P.length ca).ownBlock = some b from fun e => o2.row.ne o2.box (by decide) b e rfl);have NE1 := Qh (show ¬ (Value.slice ao P.length ca).ownBlock = some w.heap.size from fun e => by have := (HL.o.row.lt _ e).2; omega);have NE2 := Qh (show ¬ (Value.slice ao P.length ca).ownBlock = some w1.heap.size from fun e => by have := (HL.o.row.lt _ e).2; omega);have NE3 := NE2;have FZ := Qh (show ∀ (wa wb : World), Below w5.heap.size w5 wa → Wr (fun q => (Value.slice ao P.length ca).ownBlock = some q) wa wb → wb.frozen? ⟨b, 3, none⟩ = false from fun wa wb ha hb => ((HO2.o.box.below ha).wr hb (fun e => NE4.o e)).free 3);clear o2 o3 o4 o5 e1 e2 e3 e4 CR1 c1 c3 hbk hbb;have HB5 := Qh (show B ≤ w5.heap.size from Nat.le_trans HB0.o HWR.o.size);by_cases hr : r.1 = 0
 ·rw [hr, hold_zero] at HO2
  replace HGR := Qh (show Gr = G.push ⟨n, es⟩ from by rw [HGR.o, if_pos hr]);obtain ⟨i0, hi0, hz0, hz1, hz2⟩ := info_parts Ji5;clear hbne hlne;generalize hLe : es.length = L at *;generalize hMe : P.length = M at *;generalize hbg : w1.heap.size = bg at *;go_wp2_with fail;refine Jaj (S := fun V => V.cell? ⟨w.heap.size, 0, none⟩ = some (.pointer (some ⟨b, 0, none⟩)) ∧ V.cell? ⟨bg, 0, none⟩ = some (.int .i64 (n : Nat)) ∧ V.cell? ⟨bg, 1, none⟩ = some (.slice ae L ce) ∧ V.cell? ⟨b, 3, none⟩ = some (.slice ao M ca)) 10 (by kernel_rfl) ?_ (fun hQ => ?_)
  ·exact ⟨Jab F1.o (Below.refl _ _).drew, Jab F2.o (Below.refl _ _).drew, Jab F3.o (Below.refl _ _).drew, Jab F4.o (Below.refl _ _).drew⟩
  have HX := Qh (Below.refl w5.heap.size w5).drew;obtain ⟨wd, hwd⟩ : ∃ x, x = World.drew w5 := ⟨_, rfl⟩
  rw [← hwd] at HX hQ ⊢;clear hwd;refine tkZ 0 [8, 9, 10] ?_;refine tkZ 1 [2, 3, 4, 7, 8, 9, 10] ?_;refine tkY 2 ?_;refine tkY 3 ?_;refine tkZ 4 [7, 8, 9, 10] ?_;refine tkZ 5 [6, 7, 8, 9, 10] ?_;refine tqZ 6 fun K hK => ?_
  go_simp;have HY := Qh (Jae #[.int .i64 (n : Nat), .slice ae L ce] 88 wd);replace HX := Qh (HX.o.alloc HX.o.size (.cells #[.int .i64 (n : Nat), .slice ae L ce] 88));generalize hq12 : wd.heap.size = q12 at *;generalize hw12 : wd.alloc (.cells #[.int .i64 (n : Nat), .slice ae L ce] 88) = w12 at *;clear hq12 hw12;refine hK.out _ _ ?_ (fun hQ => ?_)
  ·exact ⟨Jab F1.o HX.o, Jab F2.o HX.o, Jab F3.o HX.o, Jab F4.o HX.o⟩
  clear hK K;refine tqZ 7 fun K hK => ?_
  refine Jdw (by rfl) _ _ 46 (by rfl) i0 (.agg #[.int .i64 0, .slice none 0 0]) 32 Tryz.underlying46 hi0 hz0 hz1 hz2 rfl (by decide) (by rfl) (HR.o.below HX.o) ⟨q12, 0, none⟩ 1 1 [.int .i64 (n : Nat), .slice ae L ce] (by rfl) rfl (fun j u hu => by rw [Addr.add_lit, Nat.zero_add, HY.o.cell]; simpa using hu) (fun u hu => by simp only [List.mem_cons, List.not_mem_nil, or_false] at hu; rcases hu with rfl | rfl <;> rfl) (by unfold maxLen; omega) (by omega) (Nat.le_trans HB5.o HX.o.size) ?_;intro v13 w13 ho13 hw13 hv13;obtain ⟨a13, c13, rfl, -, -⟩ := ho13.val;have HO := Qh ho13;have HW13 := Qh hw13;have HV := Qh hv13;have x1 : w13.cell? ⟨w.heap.size, 0, none⟩ = some (.pointer (some ⟨b, 0, none⟩)) := Jam (Jab F1.o HX.o) hw13 NE1.o;have x2 : w13.cell? ⟨bg, 0, none⟩ = some (.int .i64 (n : Nat)) := Jam (Jab F2.o HX.o) hw13 NE2.o;have x3 : w13.cell? ⟨bg, 1, none⟩ = some (.slice ae L ce) := Jam (Jab F3.o HX.o) hw13 NE3.o;have x4 : w13.cell? ⟨b, 3, none⟩ = some (.slice ao M ca) := Jam (Jab F4.o HX.o) hw13 NE4.o;clear ho13 hw13 hv13 HY;refine hK.out _ _ ?_ (fun hQ => ?_)
  ·exact ⟨x1, x2, x3, x4⟩
  clear hK K;refine tkY 8 ?_;refine tkY 9 ?_;refine tqL 10 fun K hK => ?_
  have f9 : w13.frozen? ⟨b, 3, none⟩ = false := FZ.o w12 w13 HX.o HW13.o;have m9 := x4;go_simp;refine hK.out _ _ ?_;clear hK K;refine wpAny_done (by kernel_rfl) ?_ _;clear hQ x1 x2 x3 x4 m9 f9 F1 F2 F3 F4 HR;subst hLe hMe;have HK := Qh (LgIn.push (s := ⟨n, es⟩) (HO2.o.below HX.o) (by unfold Sm.fin; simp only; exact ⟨by omega, HES.o.2⟩) HFEW.o HO.o HW13.o (Jaf HE5.o HX.o) HNV.o);have HPF := Qh (fun z hz => Jm2 (b := b) (vs := .slice ao P.length ca) (P := P) (s := ⟨n, es⟩) (ve := .slice ae es.length ce) HV.o z hz);have HSET := Qh (Jai (A := fun z => z = b) w13 ⟨b, 3, none⟩ (.slice a13 (P.length + 1) c13) rfl);have HGL := Qh (show LgF b (.slice ao P.length ca) P b from .inl rfl);have HVL2 := Qh (show ∀ z, (Value.slice ao P.length ca).ownBlock = some z → LgF b (.slice ao P.length ca) P z from fun z hz => .inr (.inl hz))
  have HD16 := Qh ((((HO3.o.below HX.o).more (X' := fun k => ((X k ∨ (Value.slice ae es.length ce).ownBlock = some k) ∨ LgF b (.slice ao P.length ca) P k) ∨ (Value.slice a13 (P.length + 1) c13).ownBlock = some k) (fun k hk => by
   rcases hk with (q | q) | q
   ·exact .inl (.inl (.inl (.inl q)))
   ·exact .inl (.inl (.inr q))
   ·rcases HV.o k q with h | h
    ·exact .inl (.inl (.inr (HVL2.o k h)))
    ·exact .inr h)).wr HW13.o (fun k hk => .inl (.inr (HVL2.o k hk)))).wr HSET.o (fun k hk => .inl (.inr (by rw [hk]; exact HGL.o))))
  have HW16 := Qh ((((HWR.o.trans (Jad HX.o)).step HW13.o (fun x hx => .inl ⟨(HL.o.lt x (HVL2.o x hx)).1, HN.o x (HVL2.o x hx)⟩)).step HSET.o (fun x hx => .inl (by rw [hx]; exact ⟨(HL.o.lt b HGL.o).1, HN.o b HGL.o⟩))));have HV16 := Qh (((HO4.o.below HX.o).wr HW13.o (fun k hk q => by have := (HL.o.lt k (HVL2.o k q)).1; have := H3.o; omega)).wr HSET.o (fun k hk q => by have := (HL.o.lt b HGL.o).1; have := H3.o; omega))
  have HF := Qh (show HgO X B b d (r.1, r.2, Gr) w (.returned (.int .i64 0)) (w13.setCell ⟨b, 3, none⟩ (.slice a13 (P.length + 1) c13)) from by
   rw [HGR.o];refine ⟨by rw [hr], ⟨_, _, HK.o, HD16.o.less (fun k hk => ?_), fun k hk => ?_, HV16.o, H3.o⟩, HW16.o⟩
   ·rcases hk with q | q
    ·exact .inl (.inl (.inl q))
    ·rcases HPF.o k q with h | h | h
     ·exact .inl (.inr h)
     ·exact .inl (.inl (.inr h))
     ·exact .inr h.1
   ·rcases HPF.o k hk with h | h | h
    ·exact HN.o k h
    ·exact HVX.o k h
    ·exact fun hx => by
      have h1 := HX0.o k hx;have h2 := HX.o.size;have h3 := HWR.o.size
      omega)
  go_wp2_with fail;go_ret;exact HF.o
 ·have dr : (r.1 == 0) = false := by simpa using hr
  have HF := Qh (show HgO X B b d (r.1, r.2, Gr) w (.returned (.int .i64 r.1)) w5 from
   by rw [HGR.o, if_neg hr]; exact ⟨rfl, ⟨_, _, HO2.o, HO3.o.less (fun k hk => by rcases hk with q | q; exact .inl (.inl (.inl (.inl q))); exact .inl (.inr q)), HN.o, HO4.o, H3.o⟩, HWR.o⟩)
  go_wp2_with fail;go_ret;exact HF.o
end
end
section
open Go Go.RowKit Go.Maps
namespace Hl
def append6 (x : M.Sp) (G : Lg) (D : Dk.St) : Int × Dk.St × Lg :=
 if state D G ≠ 0 then (state D G, D, G) else if M.mayB x = false then (2, D, G)
 else if G.S = [] ∨ 16 ≤ (lastS G).es.length then begin6 G (fr x) [(fr x).length] D else lay G (fr x) D
def rotate6 (G : Lg) (D : Dk.St) : Int × Dk.St × Lg :=
 if state D G ≠ 0 then (state D G, D, G) else if G.S = [] ∨ (lastS G).es = [] then (0, D, G) else begin6 G [] [] D
end Hl
section
variable {X Y : Nat → Prop} {B b d : Nat} {G G' : Hl.Lg} {D : Dk.St} {vs : Value} {P : List (Hl.Sm × Value)} {w w' w1 : World}
open Hl
theorem Jlj (h : HgX X B b d D G w) (hX : ∀ k, X k → k < w.heap.size) (hB : B ≤ w.heap.size) (hst : Hl.state D G = 0) (f : List UInt8) (hf : f.length ≤ 100) (hen : endN G ≤ 890) (hfew : G.S.length < 1000) :
  Calls Tryz.prog 70 #[.pointer (some ⟨b, 0, none⟩), .string (S f), .slice (some ⟨w.heap.size, 0, none⟩) 1 1] (w.alloc (.cells #[.int .i64 (f.length : Nat)] 3)) (HgO X B b d (begin6 G f [f.length] D) w) := by
 have hb := (Below.refl w.heap.size w).alloc (Nat.le_refl _) (.cells #[.int .i64 (f.length : Nat)] 3)
 have hrow : (w.alloc (.cells #[.int .i64 (f.length : Nat)] 3)).ownsRow B 3 1 (.slice (some ⟨w.heap.size, 0, none⟩) 1 1) 1 (nats [f.length]) :=
  ⟨rfl, .inr ⟨w.heap.size, 1, _, rfl, hB, Jae _ _ _, Nat.le_refl _, by unfold maxLen; omega, rfl, rfl⟩⟩
 have key := Jf4 (es := [f.length]) (h.newrow hb |>.less (X' := fun k => X k ∨ (Value.slice (some ⟨w.heap.size, 0, none⟩) 1 1).ownBlock = some k) (fun k hk => by
  rcases hk with q | q
  ·exact .inl q
  ·simp only [Value.ownBlock, Option.some.injEq] at q
   exact .inr ⟨by omega, by rw [sz5]; omega⟩)) (fun k hk => Nat.lt_of_lt_of_le (hX k hk) hb.size) (Nat.le_trans hB hb.size) hst f (by omega) hen hfew hrow ⟨by simp, fun e he => by rw [List.mem_singleton.1 he]; simp; omega⟩ (fun q hq hx => by
   simp only [Value.ownBlock, Option.some.injEq] at hq;have := hX q hx
   omega)
 exact key.mono fun e w9 ho => ⟨ho.1, ho.2.1, (Jad hb).step ho.2.2 (fun x hx => .inl hx)⟩
theorem Jlk (h : HgX X B b d D G w) (hX : ∀ k, X k → k < w.heap.size) (hB : B ≤ w.heap.size) (hst : Hl.state D G = 0) (hen : endN G ≤ 890) (hfew : G.S.length < 1000) :
  Calls Tryz.prog 70 #[.pointer (some ⟨b, 0, none⟩), .string { data := #[] }, .slice none 0 0] w (HgO X B b d (begin6 G [] [] D) w) :=
 Jf4 (es := []) (h.less (X' := fun k => X k ∨ (Value.slice none 0 0).ownBlock = some k) (fun k hk => by
  rcases hk with q | q
  ·exact q
  ·cases q)) hX hB hst [] (by simp) hen hfew (World.ownsRow_nil _ _ _ _) ⟨by simp, fun e he => by cases he⟩ (fun q hq => by cases hq)
theorem Ji6 {r : Int × Dk.St × Lg} {e : Ending} (hb : Below w.heap.size w w1) (h : HgO X B b d r w1 e w') : HgO X B b d r w e w' := ⟨h.1, h.2.1, (Jad hb).trans h.2.2⟩
theorem Jhf {G : Lg} (h : G.S ≠ []) : endN G = (lastS G).fin := if_neg h
abbrev spA6 (x : M.Sp) : Value := .agg #[.int .i64 x.trace, .int .i64 x.id, .int .i64 x.parent, .string (S x.svc), .string (S x.host), .int .i64 x.start, .int .i64 x.dur, .string (S x.note)]
theorem Jfi (h : HgX X B b d D G w) (hX : ∀ k, X k → k < w.heap.size) (hB : B ≤ w.heap.size) (x : M.Sp) (hx : x.fits) (hen : endN G ≤ 890) (hfew : G.S.length < 1000) :
  Calls Tryz.prog 19 #[.pointer (some ⟨b, 0, none⟩), spA6 x] w (HgO X B b d (append6 x G D) w) := by
 have CS := Qh (fun W (k : Below w.heap.size w W) => Jay (h.below k));have HS := Qh (fun W (k : Below w.heap.size w W) => Jcx (v := Hl.state D G) h k);have H2 := Qh (fun W (k : Below w.heap.size w W) => Jcx (v := 2) h k);unfold append6;by_cases hs : Hl.state D G = 0
 ·rw [if_neg (by simp [hs])]
  rw [hs] at CS;cases hm : M.mayB x with
  | false =>
   rw [if_pos rfl];have CE := Qh (fun W => Jl6 x hx hm W);clear h hX hB hx hen hfew hs hm HS;unfold spA6 at *;go_enter Tryz.func19, Tryz.ntmps19;go_wp2_with fail;with_reducible refine (CS.o _ (Qa _)).mono ?_
   rintro e w1 ⟨rfl, hb⟩;have HX := Qh ((Jae #[.int .i64 x.trace, .int .i64 x.id, .int .i64 x.parent, .string (S x.svc), .string (S x.host), .int .i64 x.start, .int .i64 x.dur, .string (S x.note)] 39 w).below hb);have HB := Qh (Jaa (Qa _) hb);have x0 := HX.o.cell 0;have x1 := HX.o.cell 1;have x2 := HX.o.cell 2;have x3 := HX.o.cell 3;have x4 := HX.o.cell 4;have x5 := HX.o.cell 5;have x6 := HX.o.cell 6;have x7 := HX.o.cell 7;simp at x0 x1 x2 x3 x4 x5 x6 x7;clear hb CS;go_wp2_with fail;with_reducible refine (CE.o _).mono ?_
   rintro e w2 ⟨rfl, hb⟩;replace HB := Qh (Jaa HB.o hb);clear hb CE HX x0 x1 x2 x3 x4 x5 x6 x7;go_wp2_with fail;go_ret;exact H2.o _ HB.o
  | true =>
   rw [if_neg (by simp)];have hfl := fr_most hm;have CE := Qh (fun W => Jkx x hx hm W);have CF := Qh (fun W => Jny (M.enc x) (by have := M.enc_len hm; omega) W);have CB := Qh (fun W (k : Below w.heap.size w W) => Jlj (h.below k) (fun z hz => Nat.lt_of_lt_of_le (hX z hz) k.size) (Nat.le_trans hB k.size) hs (fr x) (by omega) hen hfew);have HF := Qh (fun (r : Int × Dk.St × Lg) (W W' : World) (e : Ending) (k : Below w.heap.size w W) (q : HgO X B b d r W e W') => Ji6 k q);by_cases h0 : G.S = []
   ·rw [if_pos (.inl h0)]
    obtain ⟨vs, P, hL, hD, hN, hv, h3⟩ := h;have hp : P.length = 0 := by rw [hL.len, h0]; rfl
    obtain ⟨ao, cap, rfl, _⟩ := hL.row.val;have C3 := Qh hL.cell3;rw [hp] at C3;clear hL hD hN hv h3 hX hB hx hen hfew hs hm HS H2 h0 hp;unfold spA6 fr at *;generalize begin6 G (M.frameP (M.enc x)) [(M.frameP (M.enc x)).length] D = r at *;generalize M.frameP (M.enc x) = f at *;generalize M.enc x = en at *;go_enter Tryz.func19, Tryz.ntmps19;go_wp2_with fail;with_reducible refine (CS.o _ (Qa _)).mono ?_
    rintro e w1 ⟨rfl, hb⟩;have HX := Qh ((Jae #[.int .i64 x.trace, .int .i64 x.id, .int .i64 x.parent, .string (S x.svc), .string (S x.host), .int .i64 x.start, .int .i64 x.dur, .string (S x.note)] 39 w).below hb);have HB := Qh (Jaa (Qa _) hb);have x0 := HX.o.cell 0;have x1 := HX.o.cell 1;have x2 := HX.o.cell 2;have x3 := HX.o.cell 3;have x4 := HX.o.cell 4;have x5 := HX.o.cell 5;have x6 := HX.o.cell 6;have x7 := HX.o.cell 7;simp at x0 x1 x2 x3 x4 x5 x6 x7;clear hb CS;go_wp2_with fail;with_reducible refine (CE.o _).mono ?_
    rintro e w2 ⟨rfl, hb⟩;replace HB := Qh (Jaa HB.o hb);clear hb CE HX x0 x1 x2 x3 x4 x5 x6 x7;go_wp2_with fail;with_reducible refine (CF.o _).mono ?_
    rintro e w3 ⟨rfl, hb⟩;replace HB := Qh (Jaa HB.o hb);have c3 := Jab C3.o HB.o;clear hb CF;go_wp2_with fail;with_reducible refine (CB.o _ HB.o).mono ?_
    rintro e w4 ho;have HO := Qh (HF.o _ _ _ _ HB.o ho);obtain ⟨rfl, -⟩ := ho;clear CB;go_wp2_with fail;go_ret;exact HO.o
   ·have hfin : (lastS G).fin < 900 := by rw [← Jhf h0]; omega
    have CL := Qh (fun W (k : Below w.heap.size w W) => Jor (h.below k) (fun z hz => Nat.lt_of_lt_of_le (hX z hz) k.size) (Nat.le_trans hB k.size) h0 (fr x) (by omega) hfin);obtain ⟨vs, P, hL, hD, hN, hv, h3⟩ := h;obtain ⟨m, hm1⟩ : ∃ m, P.length = m + 1 := ⟨P.length - 1, by have := hL.len; have := List.length_pos_iff.2 h0; omega⟩
    obtain ⟨g, o, cap, v, rfl, q1, q2, q3, q4, q5, q6⟩ := hL.lastc hm1;have hrow : w.ownsRow B 3 1 v (lastS G).es.length (nats (lastS G).es) := hL.ends (lastS G, v) (List.mem_of_getElem? q5);obtain ⟨ao, ca, rfl⟩ := Jac hrow;have hmm : m ≤ 1000 := by have := hL.ok.few; have := hL.len; omega
    have hL9 : (lastS G).es.length ≤ 900 := by unfold Sm.fin at hfin; omega
    have CT := Qh (fun W (k : Below w.heap.size w W) => Jch (G := G) (hL.box.below k) (by omega) q1);have C3 := Qh hL.cell3;have C6 := Qh q4;have hE : (G.S = [] ∨ 16 ≤ (lastS G).es.length) ↔ 16 ≤ (lastS G).es.length := ⟨fun q => q.resolve_left h0, .inr⟩
    have hne : ((m : Int) + 1 == 0) = false := by simp; omega
    by_cases h16 : 16 ≤ (lastS G).es.length
    ·rw [if_pos (.inr h16)]
     clear hL hD hN hv h3 hX hB hx hen hfew hs hm HS H2 h0 hm1 q1 q2 q3 q4 q5 q6 hrow hfin hE CL;unfold spA6 fr at *;generalize begin6 G (M.frameP (M.enc x)) [(M.frameP (M.enc x)).length] D = r at *;generalize M.frameP (M.enc x) = f at *;generalize M.enc x = en at *;generalize (lastS G).es.length = L at *;have d16 : decide ((16 : Int) ≤ (L : Int)) = true := by simp; omega
     have d16' : decide (16 ≤ L) = true := by simp; omega
     go_enter Tryz.func19, Tryz.ntmps19;go_wp2_with fail;with_reducible refine (CS.o _ (Qa _)).mono ?_
     rintro e w1 ⟨rfl, hb⟩;have HX := Qh ((Jae #[.int .i64 x.trace, .int .i64 x.id, .int .i64 x.parent, .string (S x.svc), .string (S x.host), .int .i64 x.start, .int .i64 x.dur, .string (S x.note)] 39 w).below hb);have HB := Qh (Jaa (Qa _) hb);have x0 := HX.o.cell 0;have x1 := HX.o.cell 1;have x2 := HX.o.cell 2;have x3 := HX.o.cell 3;have x4 := HX.o.cell 4;have x5 := HX.o.cell 5;have x6 := HX.o.cell 6;have x7 := HX.o.cell 7;simp at x0 x1 x2 x3 x4 x5 x6 x7;clear hb CS;go_wp2_with fail;with_reducible refine (CE.o _).mono ?_
     rintro e w2 ⟨rfl, hb⟩;replace HB := Qh (Jaa HB.o hb);clear hb CE HX x0 x1 x2 x3 x4 x5 x6 x7;go_wp2_with fail;with_reducible refine (CF.o _).mono ?_
     rintro e w3 ⟨rfl, hb⟩;replace HB := Qh (Jaa HB.o hb);have c3 := Jab C3.o HB.o;clear hb CF;go_wp2_with fail;with_reducible refine (CT.o _ HB.o).mono ?_
     rintro e w4 ⟨rfl, hb⟩;replace HB := Qh (Jaa HB.o hb);have c6 := Jab C6.o HB.o;clear hb CT c3;go_wp2_with fail;with_reducible refine (CB.o _ HB.o).mono ?_
     rintro e w5 ho;have HO := Qh (HF.o _ _ _ _ HB.o ho);obtain ⟨rfl, -⟩ := ho;clear CB;go_wp2_with fail;go_ret;exact HO.o
    ·rw [if_neg (by rw [hE]; exact h16)]
     clear hL hD hN hv h3 hX hB hx hen hfew hs hm HS H2 h0 hm1 q1 q2 q3 q4 q5 q6 hrow hfin hE CB;unfold spA6 fr at *;generalize Hl.lay G (M.frameP (M.enc x)) D = r at *;generalize M.frameP (M.enc x) = f at *;generalize M.enc x = en at *;generalize (lastS G).es.length = L at *;have d16 : decide ((16 : Int) ≤ (L : Int)) = false := by simp; omega
     have d16' : decide (16 ≤ L) = false := by simp; omega
     go_enter Tryz.func19, Tryz.ntmps19;go_wp2_with fail;with_reducible refine (CS.o _ (Qa _)).mono ?_
     rintro e w1 ⟨rfl, hb⟩;have HX := Qh ((Jae #[.int .i64 x.trace, .int .i64 x.id, .int .i64 x.parent, .string (S x.svc), .string (S x.host), .int .i64 x.start, .int .i64 x.dur, .string (S x.note)] 39 w).below hb);have HB := Qh (Jaa (Qa _) hb);have x0 := HX.o.cell 0;have x1 := HX.o.cell 1;have x2 := HX.o.cell 2;have x3 := HX.o.cell 3;have x4 := HX.o.cell 4;have x5 := HX.o.cell 5;have x6 := HX.o.cell 6;have x7 := HX.o.cell 7;simp at x0 x1 x2 x3 x4 x5 x6 x7;clear hb CS;go_wp2_with fail;with_reducible refine (CE.o _).mono ?_
     rintro e w2 ⟨rfl, hb⟩;replace HB := Qh (Jaa HB.o hb);clear hb CE HX x0 x1 x2 x3 x4 x5 x6 x7;go_wp2_with fail;with_reducible refine (CF.o _).mono ?_
     rintro e w3 ⟨rfl, hb⟩;replace HB := Qh (Jaa HB.o hb);have c3 := Jab C3.o HB.o;clear hb CF;go_wp2_with fail;with_reducible refine (CT.o _ HB.o).mono ?_
     rintro e w4 ⟨rfl, hb⟩;replace HB := Qh (Jaa HB.o hb);have c6 := Jab C6.o HB.o;clear hb CT c3;go_wp2_with fail;with_reducible refine (CL.o _ HB.o).mono ?_
     rintro e w5 ho;have HO := Qh (HF.o _ _ _ _ HB.o ho);obtain ⟨rfl, -⟩ := ho;clear CL;go_wp2_with fail;go_ret;exact HO.o
 ·rw [if_pos hs]
  clear h hX hB hx hen hfew H2;generalize Hl.state D G = z at *;have dz : (z != 0) = true := by simpa using hs
  unfold spA6 at *;go_enter Tryz.func19, Tryz.ntmps19;go_wp2_with fail;with_reducible refine (CS.o _ (Qa _)).mono ?_
  rintro e w1 ⟨rfl, hb⟩;have HB := Qh (Jaa (Qa _) hb);clear hb CS;go_wp2_with fail;go_ret;exact HS.o _ HB.o
end
end
section
open Go Go.RowKit Go.Maps
section
variable {X Y : Nat → Prop} {B b d : Nat} {G G' : Hl.Lg} {D : Dk.St} {vs : Value} {P : List (Hl.Sm × Value)} {w w' w1 : World}
open Hl
theorem Jcf (h : HgX X B b d D G w) (hX : ∀ k, X k → k < w.heap.size) (hB : B ≤ w.heap.size) (hen : endN G ≤ 890) (hfew : G.S.length < 1000) :
  Calls Tryz.prog 21 #[.pointer (some ⟨b, 0, none⟩)] w (HgO X B b d (rotate6 G D) w) := by
 have CS := Qh (Jay h);have HS := Qh (fun (v : Int) W (k : Below w.heap.size w W) => Jcx (v := v) h k);unfold rotate6;by_cases hs : Hl.state D G = 0
 ·rw [if_neg (by simp [hs])]
  rw [hs] at CS;have CB := Qh (fun W (k : Below w.heap.size w W) => Jlk (h.below k) (fun z hz => Nat.lt_of_lt_of_le (hX z hz) k.size) (Nat.le_trans hB k.size) hs hen hfew);have HF := Qh (fun (r : Int × Dk.St × Lg) (W W' : World) (e : Ending) (k : Below w.heap.size w W) (q : HgO X B b d r W e W') => Ji6 k q);by_cases h0 : G.S = []
  ·rw [if_pos (.inl h0)]
   obtain ⟨vs, P, hL, hD, hN, hv, h3⟩ := h;have hp : P.length = 0 := by rw [hL.len, h0]; rfl
   obtain ⟨ao, cap, rfl, _⟩ := hL.row.val;have C3 := Qh hL.cell3;rw [hp] at C3;clear hL hD hN hv h3 hX hB hen hfew hs h0 hp CB;go_enter Tryz.func21, Tryz.ntmps21;go_wp2_with fail;with_reducible refine CS.o.mono ?_
   rintro e w1 ⟨rfl, hb⟩;have c3 := Jab C3.o hb;have HB := Qh hb;clear hb CS;go_wp2_with fail;go_ret;exact HS.o _ _ HB.o
  ·obtain ⟨vs, P, hL, hD, hN, hv, h3⟩ := h
   obtain ⟨m, hm1⟩ : ∃ m, P.length = m + 1 := ⟨P.length - 1, by have := hL.len; have := List.length_pos_iff.2 h0; omega⟩
   obtain ⟨g, o, cap, v, rfl, q1, q2, q3, q4, q5, q6⟩ := hL.lastc hm1;have hrow : w.ownsRow B 3 1 v (lastS G).es.length (nats (lastS G).es) := hL.ends (lastS G, v) (List.mem_of_getElem? q5);obtain ⟨ao, ca, rfl⟩ := Jac hrow;have hmm : m ≤ 1000 := by have := hL.ok.few; have := hL.len; omega
   have CT := Qh (fun W (k : Below w.heap.size w W) => Jch (G := G) (hL.box.below k) (by omega) q1);have C3 := Qh hL.cell3;have C6 := Qh q4;have hne : ((m : Int) + 1 == 0) = false := by simp; omega
   by_cases hz : (lastS G).es = []
   ·rw [if_pos (.inr hz)]
    have hz2 : (lastS G).es.length = 0 := by rw [hz]; rfl
    rw [hz2] at C6;clear hL hD hN hv h3 hX hB hen hfew hs h0 hm1 q1 q2 q3 q4 q5 q6 hrow hz hz2 CB;go_enter Tryz.func21, Tryz.ntmps21;go_wp2_with fail;with_reducible refine CS.o.mono ?_
    rintro e w1 ⟨rfl, hb⟩;have c3 := Jab C3.o hb;have HB := Qh hb;clear hb CS;go_wp2_with fail;with_reducible refine (CT.o _ HB.o).mono ?_
    rintro e w4 ⟨rfl, hb⟩;replace HB := Qh (Jaa HB.o hb);have c6 := Jab C6.o HB.o;clear hb CT c3;go_wp2_with fail;go_ret;exact HS.o _ _ HB.o
   ·rw [if_neg (fun q => q.elim h0 hz)]
    have hz2 : 0 < (lastS G).es.length := List.length_pos_iff.2 hz;clear hL hD hN hv h3 hX hB hen hfew hs h0 hm1 q1 q2 q3 q4 q5 q6 hrow hz;generalize begin6 G [] [] D = r at *;generalize (lastS G).es.length = L at *;have d16 : ((L : Int) == 0) = false := by simp; omega
    have d17 : (L == 0) = false := by simp; omega
    go_enter Tryz.func21, Tryz.ntmps21;go_wp2_with fail;with_reducible refine CS.o.mono ?_
    rintro e w1 ⟨rfl, hb⟩;have c3 := Jab C3.o hb;have HB := Qh hb;clear hb CS;go_wp2_with fail;with_reducible refine (CT.o _ HB.o).mono ?_
    rintro e w4 ⟨rfl, hb⟩;replace HB := Qh (Jaa HB.o hb);have c6 := Jab C6.o HB.o;clear hb CT c3;go_wp2_with fail;with_reducible refine (CB.o _ HB.o).mono ?_
    rintro e w5 ho;have HO := Qh (HF.o _ _ _ _ HB.o ho);obtain ⟨rfl, -⟩ := ho;clear CB;go_wp2_with fail;go_ret;exact HO.o
 ·rw [if_pos hs]
  clear h hX hB hen hfew;generalize Hl.state D G = z at *;have dz : (z != 0) = true := by simpa using hs
  go_enter Tryz.func21, Tryz.ntmps21;go_wp2_with fail;with_reducible refine CS.o.mono ?_
  rintro e w1 ⟨rfl, hb⟩;have HB := Qh hb;clear hb CS;go_wp2_with fail;go_ret;exact HS.o _ _ HB.o
theorem Jm3 (h : DkX X B d D w) (hX : ∀ k, X k → k < w.heap.size) (hB : B ≤ w.heap.size) {b1 b2 : Nat} (y1 : X b1) (y2 : X b2) (y4 : X b) (s : List UInt8) (hl : s.length ≤ 100)
  (c1 : w.cell? ⟨b1, 0, none⟩ = some (.pointer (some ⟨b, 0, none⟩))) (c2 : w.cell? ⟨b2, 0, none⟩ = some (.string (S s))) (c4 : w.cell? ⟨b, 0, none⟩ = some (.pointer (some ⟨d, 0, none⟩))) :
  Calls Tryz.prog 74 #[.pointer (some ⟨b1, 0, none⟩), .pointer (some ⟨b2, 0, none⟩)] w (OpX X B d (Dk.remove s D) w) := by
 have CA := Qh (fun W (k : Below w.heap.size w W) => show Calls Tryz.prog 75 #[.pointer (some ⟨d, 0, none⟩), .string (S s)] W (OpX X B d (Dk.remove s D) W) from Jkm (h.below k) (fun x hx => Nat.lt_of_lt_of_le (hX x hx) k.size) (Nat.le_trans hB k.size) s (by omega));have HK := Qh (show ∀ (W W' : World) (r : Int × Dk.St) (e : Ending) (a : Addr) (u : Value), OpX X B d r W e W' → W.cell? a = some u → X a.block → W'.cell? a = some u from fun W W' r e a u ho hc hx => Jam hc ho.2.2 (fun z => z.2 hx));have Y1 := Qh y1;have Y2 := Qh y2;have Y4 := Qh y4;have C1 := Qh c1;have C2 := Qh c2;have C4 := Qh c4;clear h hX hB y1 y2 y4 hl;generalize Dk.remove s D = r at *;go_enter Tryz.func74, Tryz.ntmps74;go_wp2_with fail
 go_region_held3 (fun W => W.cell? ⟨b1, 0, none⟩ = some (.pointer (some ⟨b, 0, none⟩)) ∧ W.cell? ⟨b2, 0, none⟩ = some (.string (S s)) ∧ W.cell? ⟨b, 0, none⟩ = some (.pointer (some ⟨d, 0, none⟩))) (go_keep) (first
  | (go_at_call 75; refine (CA.o _ ((Below.refl _ w).drew)).mono ?_; rintro e w4 ho; have HO := Qh ho; obtain ⟨rfl, -⟩ := ho; have x1 := HK.o _ _ _ _ _ _ HO.o (Jab C1.o ((Below.refl _ w).drew)) Y1.o; have x2 := HK.o _ _ _ _ _ _ HO.o (Jab C2.o ((Below.refl _ w).drew)) Y2.o; have x4 := HK.o _ _ _ _ _ _ HO.o (Jab C4.o ((Below.refl _ w).drew)) Y4.o))
 go_wp2_with fail;go_ret;exact ⟨rfl, HO.o.2.1, (Jad ((Below.refl _ w).drew)).trans HO.o.2.2⟩
theorem LgIn.rest {p : Sm × Value} {g o n cap : Nat} (hL : LgIn B b d G (.slice (some ⟨g, o, none⟩) (n + 2) cap) (p :: P) w) (hn : P.length = n + 1) :
  LgIn B b d { G with S := G.S.tail } (.slice (some ⟨g, o + 2, none⟩) (n + 1) (cap - 1)) P (w.setCell ⟨b, 3, none⟩ (.slice (some ⟨g, o + 2, none⟩) (n + 1) (cap - 1))) := by
 have hset := Jai (A := fun z => z = b) w ⟨b, 3, none⟩ (.slice (some ⟨g, o + 2, none⟩) (n + 1) (cap - 1)) rfl;have hgb : g ≠ b := hL.row.ne hL.box (by decide) g rfl;have hr := hL.row;have hlen : (p :: P).length = n + 1 + 1 := by rw [List.length_cons, hn]
 rw [hlen] at hr;have h1 := hr.rest;refine ⟨?_, ?_, ?_, fun q hq => Jaw (hL.ends q (List.mem_cons_of_mem _ hq)) ((Jak (hL.ends q (List.mem_cons_of_mem _ hq))).ne hL.box (by decide)), (List.pairwise_cons.1 hL.apart).2, ⟨?_, fun s hs => hL.ok.seg s (List.mem_of_mem_tail hs), hL.ok.st⟩, hL.bB⟩
 ·have := hL.box.set 3 (.slice (some ⟨g, o + 2, none⟩) (n + 1) (cap - 1))
  exact this
 ·rw [hn]
  have e : (segsV (p :: P)).drop 2 = segsV P := by rw [segsV_drop]; rfl
  rw [e] at h1;exact h1.wr hset (fun q hq e => hgb (by simp only [Value.ownBlock, Option.some.injEq] at hq; omega))
 ·rw [← hL.seg]; rfl
 ·have := hL.ok.few
  simp only [List.length_tail];omega
end
end
end Go.Proofs.YtmammmjmipgmoaaGreatDoor
