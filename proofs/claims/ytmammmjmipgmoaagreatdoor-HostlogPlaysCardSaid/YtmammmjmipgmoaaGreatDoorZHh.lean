import Derived.Test.YtmammmjmipgmoaaGreatDoorZHg
import Derived.Test.YtmammmjmipgmoaaGreatDoorZQh
set_option linter.unusedVariables false
set_option maxRecDepth 100000
set_option maxHeartbeats 16000000
namespace Go.Proofs.YtmammmjmipgmoaaGreatDoor
open Go Go.RowKit Go.Maps
open Hl in
theorem Jhh (n : Nat) (hn : n ≤ 1000) (w : World) : Calls Tryz.prog 35 #[.int .i64 (n : Nat)] w fun e w' => e = .returned (spA6 (spX n)) ∧ Below w.heap.size w w' := by
 have h1 : IntKind.i64.wrap (1 + (n : Int) % 7) = 1 + (n : Int) % 7 := IntWalk.i64_in _ (by omega);have h2 : IntKind.i64.wrap (1 + (n : Int)) = 1 + (n : Int) := IntWalk.i64_in _ (by omega);have h3 : Int.tmod (n : Int) 7 = (n : Int) % 7 := Int.tmod_eq_emod_of_nonneg (by omega);have h4 : IntKind.i64.wrap ((n : Int) % 7) = (n : Int) % 7 := IntWalk.i64_in _ (by omega);go_enter Tryz.func35, Tryz.ntmps35;go_wp2_with fail;have hk := Jae #[.int .i64 (1 + (n : Int) % 7), .int .i64 (1 + (n : Int)), .int .i64 0, .string (S [115]), .string (S [104]), .int .i64 (n : Int), .int .i64 0, .string (S [])] 39 w;refine bodyPost_ret (Jpm rfl _ _ w.heap.size (spX n) rfl hk) rfl ⟨rfl, Qa _⟩
theorem Jgt {w : World} {p q : List UInt8} {g : Nat} (h : Bk #[.string (S p), .string (S q)] 9 w g) : TsA5 w (some ⟨g, 0, none⟩) [p, q] := fun _ => ⟨g, 0, rfl, fun j hj => by
 have hj2 : j = 0 ∨ j = 1 := by simp at hj; omega
 rcases hj2 with rfl | rfl
 ·exact h.cell 0
 ·exact h.cell 1⟩
open Hl in
theorem does6 (w : World) (hv : Vr w) : Calls Tryz.prog 13 #[] w fun e w' => e = .returned (.bool true) ∧ Below w.heap.size w w' := by
 have CN := Qh (show Calls Tryz.prog 11 #[.int .i64 5000] w (Jmr 5000 w) from Jms 5000 w (by decide) (by decide));have HV := Qh hv;clear hv;go_enter Tryz.func13, Tryz.ntmps13;go_wp2_with fail;with_reducible refine CN.o.mono ?_
 rintro e w1 ⟨d, rfl, hd, hb, -⟩;have h3 := HV.o.sz;have CO := Qh (Jhg (X := fun _ => False) hd (fun k hk => hk.elim) hb.size (HV.o.below hb) h3 (by show (0 : Nat) ≤ _; omega) [] [] (ld_new 5000) (fun q => absurd rfl q));rw [open_new] at CO;have HB := Qh hb;have H3 := Qh h3;clear hd hb h3 CN;go_wp2_with fail;with_reducible refine CO.o.mono ?_
 rintro e w2 ⟨hw, (⟨h0, _⟩ | ⟨-, b, rfl, hbl, hg⟩)⟩
 ·exact absurd rfl h0
 have HH := Qh (show HgX (fun _ => False) w.heap.size b d (exI 0).1 (exI 0).2 w2 ∧ Below w.heap.size w w2 from ⟨hg, HB.o.trans (hw.below (fun k hk => hk.1) HB.o.size)⟩);clear hw hg HB CO;go_wp2_with fail;go_loopw [5] (fun v wr => ∃ i : Nat, i ≤ 17 ∧ v = .int .i64 i ∧ Hid (HgX (fun _ => False) w.heap.size b d (exI i).1 (exI i).2 wr ∧ Below w.heap.size w wr)) (fun v _ => 17 - (intOf v).toNat)
 case atStart => exact ⟨0, Nat.zero_le _, rfl, HH⟩
 case round =>
 clear HH;obtain ⟨w3, rfl⟩ : ∃ x, x = wr := ⟨_, rfl⟩
 obtain ⟨i, hi, rfl, HH⟩ := hrel;by_cases hlt : i < 17
 ·have d1 : decide ((i : Int) < 17) = true := by simp; omega
  have d1' : decide (i < 17) = true := by simpa using hlt
  obtain ⟨x1, x2, x3⟩ := ex_okN hlt;have CS := Qh (fun W => Jhh i (by omega) W);have CA := Qh (fun W (k : Below w3.heap.size w3 W) => Jfi (HH.o.1.below k) (fun k hk => hk.elim) (Nat.le_trans HH.o.2.size k.size) (spX i) (spX_fits (by omega)) x2 x3);have HEX := Qh (show exI (i + 1) = ((append6 (spX i) (exI i).2 (exI i).1).2.1, (append6 (spX i) (exI i).2 (exI i).1).2.2) from rfl);have HX1 := Qh x1;have hwi : IntKind.i64.wrap ((i : Int) + 1) = (i : Int) + 1 := IntWalk.i64_in _ (by omega);clear x1 x2 x3;generalize append6 (spX i) (exI i).2 (exI i).1 = r at *;generalize spA6 (spX i) = sv at *;go_wp2_with fail;with_reducible refine (CS.o _).mono ?_
  rintro e w4 ⟨rfl, hb4⟩;have HB4 := Qh hb4;clear hb4 CS;go_wp2_with fail;with_reducible refine (CA.o _ HB4.o).mono ?_
  rintro e w5 ⟨rfl, hg, hw⟩
  have HH5 := Qh (show HgX (fun _ => False) w.heap.size b d (exI (i + 1)).1 (exI (i + 1)).2 w5 ∧ Below w.heap.size w w5 from by
   rw [HEX.o]
   exact ⟨hg, (Jaa HH.o.2 HB4.o).trans (hw.below (fun k hk => hk.1) (Nat.le_trans HH.o.2.size HB4.o.size))⟩)
  have dx := HX1.o;clear hg hw CA;rw [dx];clear dx;go_wp2_with fail;go_roundw
  case rel => exact ⟨i + 1, by omega, by go_num, HH5⟩
  case measure => simp [intOf]; omega
 ·have d1 : decide ((i : Int) < 17) = false := by simp; omega
  have d1' : decide (i < 17) = false := by simpa using hlt
  obtain rfl : i = 17 := by omega
  have HE2 := Qh (show sureL ex17.1 ex17.2 ≤ 1000 from by rw [ex_sure]; decide)
  have CR1 := Qh (fun W (k : Below w3.heap.size w3 W) => show Calls Tryz.prog 17 #[.pointer (some ⟨b, 0, none⟩), .int .i64 15, .int .i64 9] W fun e w' => ∃ ao cap, e = .returned (.tuple #[.slice ao 1 cap, .int .i64 16, .int .i64 0]) ∧ w'.ownsRow W.heap.size 39 8 (.slice ao 1 cap) 1 (sps [spX 15]) ∧ Below W.heap.size W w' from by
   have := Jdp (HH.o.1.below k) exZ ex_seg ex_rd 15 9 (by decide) (by decide) HE2.o;rw [show readS exZ (exI 17).1 (exI 17).2 15 9 = [spX 15] from ex_s1, show readNb (exI 17).1 (exI 17).2 15 9 = 16 from ex_n1, show readE (exI 17).1 (exI 17).2 15 9 = 0 from ex_e1] at this
   exact this)
  have CR2 := Qh (fun W (k : Below w3.heap.size w3 W) => show Calls Tryz.prog 17 #[.pointer (some ⟨b, 0, none⟩), .int .i64 17, .int .i64 1] W fun e w' => ∃ ao cap, e = .returned (.tuple #[.slice ao 0 cap, .int .i64 0, .int .i64 4]) ∧ Below W.heap.size W w' from by
   have := Jdp (HH.o.1.below k) exZ ex_seg ex_rd 17 1 (by decide) (by decide) HE2.o;have e1 : readE (exI 17).1 (exI 17).2 17 1 = 4 := ex_e2;have e2 : readS exZ (exI 17).1 (exI 17).2 17 1 = [] := by unfold readS; rw [e1]; rfl
   have e3 : readNb (exI 17).1 (exI 17).2 17 1 = 0 := by unfold readNb; rw [e1]; rfl
   rw [e1, e2, e3] at this
   exact this.mono fun e w' ⟨ao, cap, h1, _, h2⟩ => ⟨ao, cap, h1, h2⟩)
  have CNm0 := Qh (fun W (k : Below w3.heap.size w3 W) => show Calls Tryz.prog 36 #[.pointer (some ⟨d, 0, none⟩)] W (RowT [[108, 48], [108, 49, 54]] W) from by
   obtain ⟨vs, P, h1, h2, h3, h4, h5⟩ := HH.o.1.below k;have := Jd1 h2;rw [show Dk.names (exI 17).1.L = [[108, 48], [108, 49, 54]] from ex_names] at this
   exact this)
  have CSu0 := Qh (fun W (k : Below w3.heap.size w3 W) => show Calls Tryz.prog 24 #[.pointer (some ⟨b, 0, none⟩)] W fun e w' => e = .returned (.int .i64 16) ∧ Below W.heap.size W w' from by
   have := Je0 (HH.o.1.below k) (srt_of ex_seg);rw [show sureL (exI 17).1 (exI 17).2 = 16 from ex_sure] at this
   exact this)
  have CEn0 := Qh (fun W (k : Below w3.heap.size w3 W) => show Calls Tryz.prog 25 #[.pointer (some ⟨b, 0, none⟩)] W fun e w' => e = .returned (.int .i64 17) ∧ Below W.heap.size W w' from by
   have := Jfq (HH.o.1.below k);rw [show endL (exI 17).1 (exI 17).2 = 17 from ex_end] at this
   exact this)
  have CSp := Qh (fun W => show Calls Tryz.prog 35 #[.int .i64 15] W fun e w' => e = .returned (.agg #[.int .i64 2, .int .i64 16, .int .i64 0, .string (S [115]), .string (S [104]), .int .i64 15, .int .i64 0, .string (S [])]) ∧ Below W.heap.size W w' from Jhh 15 (by decide) W)
  have CTx := Qh (fun (V : World) (an : Option Addr) (cn bq : Nat) (h1 : TsA5 V an [[108, 48], [108, 49, 54]]) (h2 : Bk #[.string (S [108, 48]), .string (S [108, 49, 54])] 9 V bq) => show Calls Tryz.prog 39 #[.slice an 2 cn, .slice (some ⟨bq, 0, none⟩) 2 2] V fun e w' => e = .returned (.bool true) ∧ Below V.heap.size V w' from
   Jcc [[108, 48], [108, 49, 54]] [[108, 48], [108, 49, 54]] (by decide) (by decide) an _ cn 2 V h1 (Jgt h2))
  have HHX := Qh (show HgX (fun _ => False) w.heap.size b d ex17.1 ex17.2 w3 ∧ Below w.heap.size w w3 from HH.o);clear HE2 HH;go_wp2_with fail;with_reducible refine (CR1.o _ (Below.refl _ _)).mono ?_
  rintro e w4 ⟨ao, cap, rfl, hr, hb4⟩;have HR4 := Qh hr;have HB4 := Qh hb4;clear hr hb4 CR1;go_wp2_with fail;with_reducible refine (CR2.o _ HB4.o).mono ?_
  rintro e w5 ⟨ao2, cap2, rfl, hb5⟩;have HB5 := Qh (Jaa HB4.o hb5);have HR5 := Qh (Jaf HR4.o hb5);clear hb5 CR2 HR4;go_upto_region 12 with fail
  obtain ⟨gs, os, cs, hsl, -, -, k3, -, -, k6⟩ := (Jak HR5.o).shape (by decide);simp only [Value.slice.injEq, true_and] at hsl;obtain ⟨rfl, rfl⟩ := hsl
  have HS := Qh (show ∀ V, Below w5.heap.size w5 V → V.cell? ⟨gs, os, none⟩ = some (.int .i64 2) ∧ V.cell? ⟨gs, os + 1, none⟩ = some (.int .i64 16) ∧ V.cell? ⟨gs, os + 2, none⟩ = some (.int .i64 0) ∧ V.cell? ⟨gs, os + 3, none⟩ = some (.string (S [115])) ∧ V.cell? ⟨gs, os + 4, none⟩ = some (.string (S [104])) ∧ V.cell? ⟨gs, os + 5, none⟩ = some (.int .i64 15) ∧ V.cell? ⟨gs, os + 6, none⟩ = some (.int .i64 0) ∧ V.cell? ⟨gs, os + 7, none⟩ = some (.string (S [])) from fun V hV =>
   ⟨Jab (k3 0 (by decide)) hV, Jab (k3 1 (by decide)) hV, Jab (k3 2 (by decide)) hV, Jab (k3 3 (by decide)) hV, Jab (k3 4 (by decide)) hV, Jab (k3 5 (by decide)) hV, Jab (k3 6 (by decide)) hV, Jab (k3 7 (by decide)) hV⟩)
  have CNm := Qh (fun W (k : Below w5.heap.size w5 W) => CNm0.o W (Jaa HB5.o k));have CSu := Qh (fun W (k : Below w5.heap.size w5 W) => CSu0.o W (Jaa HB5.o k));have CEn := Qh (fun W (k : Below w5.heap.size w5 W) => CEn0.o W (Jaa HB5.o k));have HHY := Qh (fun W (k : Below w5.heap.size w5 W) => (⟨HHX.o.1.below (Jaa HB5.o k), Jaa HHX.o.2 (Jaa HB5.o k)⟩ : HgX (fun _ => False) w.heap.size b d ex17.1 ex17.2 W ∧ Below w.heap.size w W));clear k3 k6 CNm0 CSu0 CEn0 HHX HB4 HB5 HR5;have HE := Qh (Below.refl w5.heap.size w5).drew;refine wp_region_held_drew (S := fun V => V.cell? ⟨gs, os, none⟩ = some (.int .i64 2) ∧ V.cell? ⟨gs, os + 1, none⟩ = some (.int .i64 16) ∧ V.cell? ⟨gs, os + 2, none⟩ = some (.int .i64 0) ∧ V.cell? ⟨gs, os + 3, none⟩ = some (.string (S [115])) ∧ V.cell? ⟨gs, os + 4, none⟩ = some (.string (S [104])) ∧ V.cell? ⟨gs, os + 5, none⟩ = some (.int .i64 15) ∧ V.cell? ⟨gs, os + 6, none⟩ = some (.int .i64 0) ∧ V.cell? ⟨gs, os + 7, none⟩ = some (.string (S []))) (by kernel_rfl) ?_ (fun hQ => ?_)
  ·exact HS.o _ HE.o
  obtain ⟨wq, hwq⟩ : ∃ x, x = World.drew w5 := ⟨_, rfl⟩
  rw [← hwq] at HE hQ ⊢;clear hwq;refine tkH 0 ?_;refine wpAnyH_ready (rs := [1, 2]) (by kernel_rfl) (by simp) ?_;refine AllReadyH.cons (o := ⟨_, _, _, _, _, _⟩) rfl (fun K hK => ?_) (AllReadyH.cons (o := ⟨_, _, _, _, _, _⟩) rfl (fun K hK => ?_) (AllReadyH.nil))
  ·go_simp
   go_at_call 36;with_reducible refine (CNm.o _ HE.o).mono ?_
   rintro e wq ⟨an, cn, rfl, hrn, hbn⟩;have HN := Qh (Jb6 hrn);replace HE := Qh (Jaa HE.o hbn);clear hrn hbn CNm;go_wp2_with fail;refine hK.out _ _ ?_ (fun hQ => ?_)
   ·exact HS.o _ HE.o
   clear hK K;refine tqH 2 fun K hK => ?_
   go_simp;have HQ := Qh (Jae #[.string (S [108, 48]), .string (S [108, 49, 54])] 9 wq);replace HE := Qh (HE.o.alloc HE.o.size (.cells #[.string (S [108, 48]), .string (S [108, 49, 54])] 9));replace HN := Qh (HN.o.below ((Below.refl wq.heap.size wq).alloc (Nat.le_refl _) (.cells #[.string (S [108, 48]), .string (S [108, 49, 54])] 9)));obtain ⟨bq, hbq⟩ : ∃ x, x = wq.heap.size := ⟨_, rfl⟩
   rw [← hbq] at HQ ⊢;clear hbq;generalize wq.alloc (.cells #[.string (S [108, 48]), .string (S [108, 49, 54])] 9) = wq2 at *;refine hK.out _ _ ?_ (fun hQ => ?_)
   ·exact HS.o _ HE.o
   clear hK K;refine tqH 3 fun K hK => ?_
   go_simp;go_at_call 39;with_reducible refine (CTx.o _ an cn bq HN.o HQ.o).mono ?_
   rintro e wt ⟨rfl, hbt⟩;replace HE := Qh (Jaa HE.o hbt);clear hbt CTx HN HQ;go_wp2_with fail;refine hK.out _ _ ?_ (fun hQ => ?_)
   ·exact HS.o _ HE.o
   clear hK K;refine tkH 4 ?_;refine tkH 5 ?_;refine tkH 6 ?_;refine tqH 7 fun K hK => ?_
   go_simp;go_at_call 24;with_reducible refine (CSu.o _ HE.o).mono ?_
   rintro e wu ⟨rfl, hbt⟩;replace HE := Qh (Jaa HE.o hbt);clear hbt CSu;go_wp2_with fail;refine hK.out _ _ ?_ (fun hQ => ?_)
   ·exact HS.o _ HE.o
   clear hK K;refine tkH 8 ?_;refine tkH 9 ?_;refine tkH 10 ?_;refine tkH 11 ?_;refine tqH 12 fun K hK => ?_
   go_simp;go_at_call 25;with_reducible refine (CEn.o _ HE.o).mono ?_
   rintro e we ⟨rfl, hbt⟩;replace HE := Qh (Jaa HE.o hbt);clear hbt CEn;go_wp2_with fail;refine hK.out _ _ ?_ (fun hQ => ?_)
   ·exact HS.o _ HE.o
   clear hK K;refine tkH 13 ?_;refine tkH 14 ?_;refine tkH 15 ?_;refine tkH 16 ?_;refine tkH 17 ?_;refine tkH 18 ?_;refine tkH 19 ?_;refine tkH 20 ?_;refine tkH 21 ?_;refine tkH 22 ?_;refine tkH 23 ?_;refine tkH 24 ?_;refine tkH 25 ?_;refine tkH 26 ?_;refine tkH 27 ?_;refine tqH 28 fun K hK => ?_
   go_simp;go_at_call 35;with_reducible refine (CSp.o _).mono ?_
   rintro e wz ⟨rfl, hbt⟩;replace HE := Qh (Jaa HE.o hbt);clear hbt CSp;go_wp2_with fail;refine hK.out _ _ ?_ (fun hQ => ?_)
   ·exact HS.o _ HE.o
   clear hK K;refine tkH 29 ?_;refine tkH 30 ?_;refine tkH 31 ?_;refine tkH 32 ?_;refine tkH 33 ?_;refine tkH 34 ?_;refine tkH 35 ?_;refine tkH 36 ?_;refine tkH 37 ?_;refine tkH 38 ?_;refine wpAnyH_done (by kernel_rfl) ?_ _;have HH := Qh (HHY.o _ HE.o);clear hQ HHY HS HE;go_wp2_with fail;have CF := Qh (fun W (q : HgX (fun _ => False) w.heap.size b d ex17.1 ex17.2 W ∧ Below w.heap.size w W) => show Calls Tryz.prog 20 #[.pointer (some ⟨b, 0, none⟩)] W fun e w' => e = .returned (.int .i64 0) ∧ HgX (fun _ => False) w.heap.size b d exA.2.1 exA.2.2 w' ∧ Below w.heap.size w w' from (Jez q.1 (fun k hk => hk.elim) q.2.size).mono fun e w' ⟨h1, h2, h3⟩ => ⟨h1.trans (congrArg (fun z => Ending.returned (.int .i64 z)) ex_four.1), h2, q.2.trans (h3.below (fun k hk => hk.1) q.2.size)⟩);with_reducible refine (CF.o _ HH.o).mono ?_
   rintro e wf0 ⟨rfl, hf⟩;replace HH := Qh hf;clear hf CF;go_wp2_with fail;have CF := Qh (fun W (q : HgX (fun _ => False) w.heap.size b d exA.2.1 exA.2.2 W ∧ Below w.heap.size w W) => show Calls Tryz.prog 21 #[.pointer (some ⟨b, 0, none⟩)] W fun e w' => e = .returned (.int .i64 0) ∧ HgX (fun _ => False) w.heap.size b d exB.2.1 exB.2.2 w' ∧ Below w.heap.size w w' from (Jcf q.1 (fun k hk => hk.elim) q.2.size ex_small.1 ex_small.2.1).mono fun e w' ⟨h1, h2, h3⟩ => ⟨h1.trans (congrArg (fun z => Ending.returned (.int .i64 z)) ex_four.2.1), h2, q.2.trans (h3.below (fun k hk => hk.1) q.2.size)⟩);with_reducible refine (CF.o _ HH.o).mono ?_
   rintro e wf1 ⟨rfl, hf⟩;replace HH := Qh hf;clear hf CF;go_wp2_with fail;have CF := Qh (fun W (q : HgX (fun _ => False) w.heap.size b d exB.2.1 exB.2.2 W ∧ Below w.heap.size w W) => show Calls Tryz.prog 21 #[.pointer (some ⟨b, 0, none⟩)] W fun e w' => e = .returned (.int .i64 0) ∧ HgX (fun _ => False) w.heap.size b d exC.2.1 exC.2.2 w' ∧ Below w.heap.size w w' from (Jcf q.1 (fun k hk => hk.elim) q.2.size ex_small.2.2.1 ex_small.2.2.2).mono fun e w' ⟨h1, h2, h3⟩ => ⟨h1.trans (congrArg (fun z => Ending.returned (.int .i64 z)) ex_four.2.2.1), h2, q.2.trans (h3.below (fun k hk => hk.1) q.2.size)⟩);with_reducible refine (CF.o _ HH.o).mono ?_
   rintro e wf2 ⟨rfl, hf⟩;replace HH := Qh hf;clear hf CF;go_wp2_with fail;have CF := Qh (fun W (q : HgX (fun _ => False) w.heap.size b d exC.2.1 exC.2.2 W ∧ Below w.heap.size w W) => show Calls Tryz.prog 22 #[.pointer (some ⟨b, 0, none⟩), .int .i64 2] W fun e w' => e = .returned (.int .i64 0) ∧ HgX (fun _ => False) w.heap.size b d exD.2.1 exD.2.2 w' ∧ Below w.heap.size w w' from (Jdy q.1 (fun k hk => hk.elim) q.2.size 2 (by decide)).mono fun e w' ⟨h1, h2, h3⟩ => ⟨h1.trans (congrArg (fun z => Ending.returned (.int .i64 z)) ex_four.2.2.2), h2, q.2.trans (h3.below (fun k hk => hk.1) q.2.size)⟩);with_reducible refine (CF.o _ HH.o).mono ?_
   rintro e wf3 ⟨rfl, hf⟩;replace HH := Qh hf;clear hf CF;go_wp2_with fail
   have CM := Qh (fun W (q : HgX (fun _ => False) w.heap.size b d exD.2.1 exD.2.2 W ∧ Below w.heap.size w W) => show Calls Tryz.prog 36 #[.pointer (some ⟨d, 0, none⟩)] W (RowT [[108, 49, 54], [108, 49, 55]] W) from by
    obtain ⟨vs, P, h1, h2, h3, h4, h5⟩ := q.1;have := Jd1 h2;rw [ex_names2] at this
    exact this)
   with_reducible refine (CM.o _ HH.o).mono ?_
   rintro e wm ⟨am, cm, rfl, hrm, hbm⟩;have hx := (Below.refl wm.heap.size wm).alloc (Nat.le_refl _) (.cells #[.string (S [108, 49, 54]), .string (S [108, 49, 55])] 9);have CT := Qh (show Calls Tryz.prog 39 #[.slice am 2 cm, .slice (some ⟨wm.heap.size, 0, none⟩) 2 2] (wm.alloc (.cells #[.string (S [108, 49, 54]), .string (S [108, 49, 55])] 9)) (fun e w' => e = .returned (.bool true) ∧ Below (wm.alloc (.cells #[.string (S [108, 49, 54]), .string (S [108, 49, 55])] 9)).heap.size (wm.alloc (.cells #[.string (S [108, 49, 54]), .string (S [108, 49, 55])] 9)) w') from Jcc [[108, 49, 54], [108, 49, 55]] [[108, 49, 54], [108, 49, 55]] (by decide) (by decide) am _ cm 2 _ (TsA5.below (Jb6 hrm) hx) (Jgt (Jae #[.string (S [108, 49, 54]), .string (S [108, 49, 55])] 9 wm)));replace HH := Qh (show HgX (fun _ => False) w.heap.size b d exD.2.1 exD.2.2 (wm.alloc (.cells #[.string (S [108, 49, 54]), .string (S [108, 49, 55])] 9)) ∧ Below w.heap.size w (wm.alloc (.cells #[.string (S [108, 49, 54]), .string (S [108, 49, 55])] 9)) from ⟨(HH.o.1.below hbm).below hx, Jaa (Jaa HH.o.2 hbm) hx⟩);clear hrm hbm hx CM;go_wp2_with fail;with_reducible refine CT.o.mono ?_
   rintro e wt ⟨rfl, hbt⟩;replace HH := Qh (⟨HH.o.1.below hbt, Jaa HH.o.2 hbt⟩ : HgX (fun _ => False) w.heap.size b d exD.2.1 exD.2.2 wt ∧ Below w.heap.size w wt);clear hbt CT
   have CI := Qh (show Calls Tryz.prog 23 #[.pointer (some ⟨b, 0, none⟩)] wt fun e w' => e = .returned (.int .i64 16) ∧ Below wt.heap.size wt w' from by
    have := Jdb HH.o.1;rw [ex_first] at this
    exact this)
   go_wp2_with fail;with_reducible refine CI.o.mono ?_
   rintro e wi ⟨rfl, hbi⟩;have HF := Qh (Jaa HH.o.2 hbi);clear hbi CI;go_wp2_with fail;go_ret;exact ⟨rfl, HF.o⟩
  ·go_simp
   have HQ := Qh (Jae #[.string (S [108, 48]), .string (S [108, 49, 54])] 9 wq);replace HE := Qh (HE.o.alloc HE.o.size (.cells #[.string (S [108, 48]), .string (S [108, 49, 54])] 9));obtain ⟨bq, hbq⟩ : ∃ x, x = wq.heap.size := ⟨_, rfl⟩
   rw [← hbq] at HQ ⊢;clear hbq;generalize wq.alloc (.cells #[.string (S [108, 48]), .string (S [108, 49, 54])] 9) = wq2 at *;refine hK.out _ _ ?_ (fun hQ => ?_)
   ·exact HS.o _ HE.o
   clear hK K;refine tqH 1 fun K hK => ?_
   go_simp;go_at_call 36;with_reducible refine (CNm.o _ HE.o).mono ?_
   rintro e wq2 ⟨an, cn, rfl, hrn, hbn⟩;have HN := Qh (Jb6 hrn);replace HE := Qh (Jaa HE.o hbn);replace HQ := Qh (HQ.o.below hbn);clear hrn hbn CNm;go_wp2_with fail;refine hK.out _ _ ?_ (fun hQ => ?_)
   ·exact HS.o _ HE.o
   clear hK K;refine tqH 3 fun K hK => ?_
   go_simp;go_at_call 39;with_reducible refine (CTx.o _ an cn bq HN.o HQ.o).mono ?_
   rintro e wt ⟨rfl, hbt⟩;replace HE := Qh (Jaa HE.o hbt);clear hbt CTx HN HQ;go_wp2_with fail;refine hK.out _ _ ?_ (fun hQ => ?_)
   ·exact HS.o _ HE.o
   clear hK K;refine tkH 4 ?_;refine tkH 5 ?_;refine tkH 6 ?_;refine tqH 7 fun K hK => ?_
   go_simp;go_at_call 24;with_reducible refine (CSu.o _ HE.o).mono ?_
   rintro e wu ⟨rfl, hbt⟩;replace HE := Qh (Jaa HE.o hbt);clear hbt CSu;go_wp2_with fail;refine hK.out _ _ ?_ (fun hQ => ?_)
   ·exact HS.o _ HE.o
   clear hK K;refine tkH 8 ?_;refine tkH 9 ?_;refine tkH 10 ?_;refine tkH 11 ?_;refine tqH 12 fun K hK => ?_
   go_simp;go_at_call 25;with_reducible refine (CEn.o _ HE.o).mono ?_
   rintro e we ⟨rfl, hbt⟩;replace HE := Qh (Jaa HE.o hbt);clear hbt CEn;go_wp2_with fail;refine hK.out _ _ ?_ (fun hQ => ?_)
   ·exact HS.o _ HE.o
   clear hK K;refine tkH 13 ?_;refine tkH 14 ?_;refine tkH 15 ?_;refine tkH 16 ?_;refine tkH 17 ?_;refine tkH 18 ?_;refine tkH 19 ?_;refine tkH 20 ?_;refine tkH 21 ?_;refine tkH 22 ?_;refine tkH 23 ?_;refine tkH 24 ?_;refine tkH 25 ?_;refine tkH 26 ?_;refine tkH 27 ?_;refine tqH 28 fun K hK => ?_
   go_simp;go_at_call 35;with_reducible refine (CSp.o _).mono ?_
   rintro e wz ⟨rfl, hbt⟩;replace HE := Qh (Jaa HE.o hbt);clear hbt CSp;go_wp2_with fail;refine hK.out _ _ ?_ (fun hQ => ?_)
   ·exact HS.o _ HE.o
   clear hK K;refine tkH 29 ?_;refine tkH 30 ?_;refine tkH 31 ?_;refine tkH 32 ?_;refine tkH 33 ?_;refine tkH 34 ?_;refine tkH 35 ?_;refine tkH 36 ?_;refine tkH 37 ?_;refine tkH 38 ?_;refine wpAnyH_done (by kernel_rfl) ?_ _;have HH := Qh (HHY.o _ HE.o);clear hQ HHY HS HE;go_wp2_with fail;have CF := Qh (fun W (q : HgX (fun _ => False) w.heap.size b d ex17.1 ex17.2 W ∧ Below w.heap.size w W) => show Calls Tryz.prog 20 #[.pointer (some ⟨b, 0, none⟩)] W fun e w' => e = .returned (.int .i64 0) ∧ HgX (fun _ => False) w.heap.size b d exA.2.1 exA.2.2 w' ∧ Below w.heap.size w w' from (Jez q.1 (fun k hk => hk.elim) q.2.size).mono fun e w' ⟨h1, h2, h3⟩ => ⟨h1.trans (congrArg (fun z => Ending.returned (.int .i64 z)) ex_four.1), h2, q.2.trans (h3.below (fun k hk => hk.1) q.2.size)⟩);with_reducible refine (CF.o _ HH.o).mono ?_
   rintro e wf0 ⟨rfl, hf⟩;replace HH := Qh hf;clear hf CF;go_wp2_with fail;have CF := Qh (fun W (q : HgX (fun _ => False) w.heap.size b d exA.2.1 exA.2.2 W ∧ Below w.heap.size w W) => show Calls Tryz.prog 21 #[.pointer (some ⟨b, 0, none⟩)] W fun e w' => e = .returned (.int .i64 0) ∧ HgX (fun _ => False) w.heap.size b d exB.2.1 exB.2.2 w' ∧ Below w.heap.size w w' from (Jcf q.1 (fun k hk => hk.elim) q.2.size ex_small.1 ex_small.2.1).mono fun e w' ⟨h1, h2, h3⟩ => ⟨h1.trans (congrArg (fun z => Ending.returned (.int .i64 z)) ex_four.2.1), h2, q.2.trans (h3.below (fun k hk => hk.1) q.2.size)⟩);with_reducible refine (CF.o _ HH.o).mono ?_
   rintro e wf1 ⟨rfl, hf⟩;replace HH := Qh hf;clear hf CF;go_wp2_with fail;have CF := Qh (fun W (q : HgX (fun _ => False) w.heap.size b d exB.2.1 exB.2.2 W ∧ Below w.heap.size w W) => show Calls Tryz.prog 21 #[.pointer (some ⟨b, 0, none⟩)] W fun e w' => e = .returned (.int .i64 0) ∧ HgX (fun _ => False) w.heap.size b d exC.2.1 exC.2.2 w' ∧ Below w.heap.size w w' from (Jcf q.1 (fun k hk => hk.elim) q.2.size ex_small.2.2.1 ex_small.2.2.2).mono fun e w' ⟨h1, h2, h3⟩ => ⟨h1.trans (congrArg (fun z => Ending.returned (.int .i64 z)) ex_four.2.2.1), h2, q.2.trans (h3.below (fun k hk => hk.1) q.2.size)⟩);with_reducible refine (CF.o _ HH.o).mono ?_
   rintro e wf2 ⟨rfl, hf⟩;replace HH := Qh hf;clear hf CF;go_wp2_with fail;have CF := Qh (fun W (q : HgX (fun _ => False) w.heap.size b d exC.2.1 exC.2.2 W ∧ Below w.heap.size w W) => show Calls Tryz.prog 22 #[.pointer (some ⟨b, 0, none⟩), .int .i64 2] W fun e w' => e = .returned (.int .i64 0) ∧ HgX (fun _ => False) w.heap.size b d exD.2.1 exD.2.2 w' ∧ Below w.heap.size w w' from (Jdy q.1 (fun k hk => hk.elim) q.2.size 2 (by decide)).mono fun e w' ⟨h1, h2, h3⟩ => ⟨h1.trans (congrArg (fun z => Ending.returned (.int .i64 z)) ex_four.2.2.2), h2, q.2.trans (h3.below (fun k hk => hk.1) q.2.size)⟩);with_reducible refine (CF.o _ HH.o).mono ?_
   rintro e wf3 ⟨rfl, hf⟩;replace HH := Qh hf;clear hf CF;go_wp2_with fail
   have CM := Qh (fun W (q : HgX (fun _ => False) w.heap.size b d exD.2.1 exD.2.2 W ∧ Below w.heap.size w W) => show Calls Tryz.prog 36 #[.pointer (some ⟨d, 0, none⟩)] W (RowT [[108, 49, 54], [108, 49, 55]] W) from by
    obtain ⟨vs, P, h1, h2, h3, h4, h5⟩ := q.1;have := Jd1 h2;rw [ex_names2] at this
    exact this)
   with_reducible refine (CM.o _ HH.o).mono ?_
   rintro e wm ⟨am, cm, rfl, hrm, hbm⟩;have hx := (Below.refl wm.heap.size wm).alloc (Nat.le_refl _) (.cells #[.string (S [108, 49, 54]), .string (S [108, 49, 55])] 9);have CT := Qh (show Calls Tryz.prog 39 #[.slice am 2 cm, .slice (some ⟨wm.heap.size, 0, none⟩) 2 2] (wm.alloc (.cells #[.string (S [108, 49, 54]), .string (S [108, 49, 55])] 9)) (fun e w' => e = .returned (.bool true) ∧ Below (wm.alloc (.cells #[.string (S [108, 49, 54]), .string (S [108, 49, 55])] 9)).heap.size (wm.alloc (.cells #[.string (S [108, 49, 54]), .string (S [108, 49, 55])] 9)) w') from Jcc [[108, 49, 54], [108, 49, 55]] [[108, 49, 54], [108, 49, 55]] (by decide) (by decide) am _ cm 2 _ (TsA5.below (Jb6 hrm) hx) (Jgt (Jae #[.string (S [108, 49, 54]), .string (S [108, 49, 55])] 9 wm)));replace HH := Qh (show HgX (fun _ => False) w.heap.size b d exD.2.1 exD.2.2 (wm.alloc (.cells #[.string (S [108, 49, 54]), .string (S [108, 49, 55])] 9)) ∧ Below w.heap.size w (wm.alloc (.cells #[.string (S [108, 49, 54]), .string (S [108, 49, 55])] 9)) from ⟨(HH.o.1.below hbm).below hx, Jaa (Jaa HH.o.2 hbm) hx⟩);clear hrm hbm hx CM;go_wp2_with fail;with_reducible refine CT.o.mono ?_
   rintro e wt ⟨rfl, hbt⟩;replace HH := Qh (⟨HH.o.1.below hbt, Jaa HH.o.2 hbt⟩ : HgX (fun _ => False) w.heap.size b d exD.2.1 exD.2.2 wt ∧ Below w.heap.size w wt);clear hbt CT
   have CI := Qh (show Calls Tryz.prog 23 #[.pointer (some ⟨b, 0, none⟩)] wt fun e w' => e = .returned (.int .i64 16) ∧ Below wt.heap.size wt w' from by
    have := Jdb HH.o.1;rw [ex_first] at this
    exact this)
   go_wp2_with fail;with_reducible refine CI.o.mono ?_
   rintro e wi ⟨rfl, hbi⟩;have HF := Qh (Jaa HH.o.2 hbi);clear hbi CI;go_wp2_with fail;go_ret;exact ⟨rfl, HF.o⟩
end Go.Proofs.YtmammmjmipgmoaaGreatDoor
